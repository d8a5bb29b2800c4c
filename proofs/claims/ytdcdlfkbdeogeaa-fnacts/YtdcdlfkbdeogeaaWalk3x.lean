/-
  Walks of chapter 3: DoAct of the specification, kind by kind.
-/
import Derived.Test.YtdcdlfkbdeogeaaWalk3w
namespace Go.Proofs.Ytdcdlfkbdeogeaa
open Go.RowKit P5 K
set_option linter.unusedVariables false
set_option linter.unusedSimpArgs false

theorem fine_ok {f : FileV} (h : fileOk f = true) : Fine f := by
  obtain ⟨h1, h2, h3, h4⟩ := (fileOk_iff f).1 h
  have hn : f.name.length ≤ 8 := by simp [P5.nameOk] at h1; omega
  refine ⟨by omega, by omega, ?_⟩
  simp [Lit.wf, IntKind.min, IntKind.max, IntKind.signed, IntKind.bits]
  omega

theorem actL_eq {fs : List FileV} {a : ActV} (hok : diskOk fs = true) (hf : actForm a) {gs : List FileV} (ho : outL fs a = some gs) : actL fs a = if diskOk gs = true then some gs else none := by
  unfold actL doL
  rw [if_pos hok, if_pos hf, ho]

theorem actL_out {fs : List FileV} {a : ActV} (ho : outL fs a = none) : actL fs a = none := by
  unfold actL
  split
  · exact doL_none (.inr (.inl ho))
  · rfl

set_option maxRecDepth 100000 in
set_option maxHeartbeats 1000000 in
theorem specDoAct_add (oa : Option Addr) (n cap : Nat) (fs : List FileV) (nm tx : List UInt8) (w : World) (h : ActIn w oa n cap fs ⟨1, nm, tx, []⟩) (hok : diskOk fs = true) (hform : actForm ⟨1, nm, tx, []⟩) (f : FileV) (hfa : fileAt fs nm = some f) :
    Calls Try.prog 23 #[.agg #[.slice oa n cap], aval ⟨1, nm, tx, []⟩] w fun e w' => DiskRes w ((actL fs ⟨1, nm, tx, []⟩).getD []) (actL fs ⟨1, nm, tx, []⟩).isSome e w' := by
  obtain ⟨b1, b2, b3, b4⟩ := h.act
  simp only at b1 b2 b3
  obtain ⟨o1, o2, o3⟩ := (diskOk_iff fs).1 hok
  have HH := hide h
  have HOK := hide hok
  have HNM := hide hform.1
  have HO2 := hide o2
  have hn30 : n ≤ 30 := by have := h.at_.len; omega
  have HB0 := hide (blk3_below w oa n cap 1 nm tx [])
  unfold aval
  simp only
  obtain ⟨hm, hn⟩ := fileAt_some hfa
  have hfo := (fileOk_iff f).1 (o2 f hm)
  have hl20 := hfo.2.1
  have hix := atFrom_spec nm fs 0
  rw [hfa] at hix
  simp only [Nat.zero_add, reduceCtorEq, and_false, false_or, Option.some.injEq] at hix
  obtain ⟨i, f', hix, hfi, rfl, hfn⟩ := hix
  clear hfn
  have hin : i < n := by have := (List.getElem?_eq_some_iff.1 hfi).1; have := h.at_.len; omega
  obtain ⟨f'', b, q, hf2, hidx, hb, e0, e1, e2⟩ := h.at_.get Try.underlying24 infoIF i hin
  rw [hfi] at hf2
  cases hf2
  have hi0 : (i : Int) < (n : Int) := by omega
  have HIX := hide hix
  have R := hide (actL_eq hok hform (gs := put fs (addTo f tx)) (by unfold outL fileOr; rw [if_pos rfl, hfa]; rfl))
  have HGF := hide (show ∀ g ∈ put fs (addTo f tx), Fine g by
    intro g hg
    rcases mem_put hg with rfl | hg
    · have hff := fine_ok (o2 f hm)
      exact ⟨hff.1, by simp [addTo]; omega, hff.2.2⟩
    · exact fine_ok (o2 g hg))
  have hcat := cat_list f.text tx
  clear h hok hform o2 hfo hm hn hfa hfi hix
  go_enter Try.func23, Try.ntmps23
  go_wp2_with fail
  refine (specDiskOk_any oa n cap fs _ (HH.out.at_.below HB0.out) HH.out.fine).mono ?_
  rw [HOK.out]
  rintro e w2 ⟨rfl, hb2⟩
  have A2 := at3_of hb2
  have cu0 := A2.d0
  have cu1 := A2.a0
  have cu2 := A2.a1
  have cu3 := A2.a2
  have cu4 := A2.a3
  have cu5 := A2.r0
  have cu6 := A2.r1
  have HA2 := hide A2
  clear A2 hb2
  go_wp2_with (first
    | (go_at_call 46; refine (l03Name_any nm (by omega) _).mono ?_; rw [HNM.out]; rintro e wx ⟨rfl, hwx⟩; obtain rfl := hwx.symm)
    | (go_at_call 47; refine (l03At_any oa n cap fs nm _ (HH.out.at_.below HA2.out.bel)).mono ?_; rw [HIX.out]; rintro e w3 ⟨rfl, hb3⟩; have A3 := HA2.out.on hb3 HA2.out.big; have m0 := A3.d0; have m1 := A3.a0; have m2 := A3.a1; have m3 := A3.a2; have m4 := A3.a3; have m5 := A3.r0; have m6 := A3.r1; have m7 : w.heap.size + 3 ≤ w3.heap.size := A3.big; have m8 : w.heap.size < w3.heap.size := (by omega); have m9 : w.heap.size + 1 < w3.heap.size := (by omega); have m10 : w.heap.size + 1 + 1 < w3.heap.size := (by omega); have x0 := (A3.bel.cell hb).trans e0; have x1 := (A3.bel.cell hb).trans e1; have x2 := (A3.bel.cell hb).trans e2; have hb3lt := Nat.lt_of_lt_of_le hb A3.bel.size))
  have hb4 : Below w3.heap.size w3 ((w3.alloc (.cells #[.string ⟨f.name.toArray⟩, .string ⟨(f.text ++ tx).toArray⟩, .int .i64 f.kept] 49)).alloc (.cells #[.slice none 0 0] 26)) := ((Below.refl _ w3).alloc (Nat.le_refl _) _).alloc (by simp) _
  have A4 := A3.on hb4 A3.big
  have hY : ((w3.alloc (.cells #[.string ⟨f.name.toArray⟩, .string ⟨(f.text ++ tx).toArray⟩, .int .i64 f.kept] 49)).alloc (.cells #[.slice none 0 0] 26)).heap[w3.heap.size + 1]? = some (.cells #[.slice none 0 0] 26 (0, 0)) := by
    have := heap_alloc_new (w3.alloc (.cells #[.string ⟨f.name.toArray⟩, .string ⟨(f.text ++ tx).toArray⟩, .int .i64 f.kept] 49)) (.cells #[.slice none 0 0] 26)
    rwa [World.size_alloc] at this
  refine (l03Put_any oa n cap fs (addTo f tx) _ (HH.out.at_.below A4.bel) (by omega)).mono ?_
  rintro e w5 ⟨v, rfl, ho5, hb5⟩
  obtain ⟨ov, cv, rfl⟩ := own_form ho5
  have y0 : w5.cell? ⟨w3.heap.size + 1, 0, none⟩ = some (.slice none 0 0) := row_cell hb5 (by simp) hY 0
  have y1 : w5.frozen? ⟨w3.heap.size + 1, 0, none⟩ = false := row_free hb5 (by simp) hY 0
  have A5 := A4.on hb5 A4.big
  obtain ⟨oa6, cap6, heq6, hat6⟩ := filesAt_of_own (own_setCell ho5 (p := ⟨w3.heap.size + 1, 0, none⟩) (by simp) (.slice ov (put fs (addTo f tx)).length cv))
  cases heq6
  have b6 : Below (w3.heap.size + 1) w5 (w5.setCell ⟨w3.heap.size + 1, 0, none⟩ (.slice ov (put fs (addTo f tx)).length cv)) := (Below.refl _ _).setCell (p := ⟨w3.heap.size + 1, 0, none⟩) (Nat.le_refl _) _
  have A6 := A5.on b6 (by omega)
  have HAT6 := hide hat6
  have HA6 := hide A6
  have HO5 := hide ho5
  have s4 : w3.heap.size + 2 ≤ w5.heap.size := by have := hb5.size; simp at this; omega
  clear hat6 ho5 hb5 A4 A5 A6 b6 hY
  go_wp2_with fail
  refine (specDiskOk_any ov (put fs (addTo f tx)).length cv (put fs (addTo f tx)) _ HAT6.out HGF.out).mono ?_
  cases hd : diskOk (put fs (addTo f tx)) with
  | false =>
    have RD := hide (show actL fs ⟨1, nm, tx, []⟩ = none by rw [R.out, if_neg (by rw [hd]; simp)])
    rintro e w7 ⟨rfl, hb7⟩
    have A7 := HA6.out.on hb7 HA6.out.big
    have k1 := A7.r0
    have q1 := A7.r1
    clear hd
    go_wp2_with fail
    refine bodyPost_ret (v := .tuple #[.agg #[.slice none 0 0], .bool false]) (by simp [results, Try.results23, go_sem, k1, q1]) rfl (DiskRes.no RD.out ?_)
    exact A7.bel.setCell (by simp; omega) _
  | true =>
    have RD := hide (show actL fs ⟨1, nm, tx, []⟩ = some (put fs (addTo f tx)) by rw [R.out, if_pos hd])
    rintro e w7 ⟨rfl, hb7⟩
    have A7 := HA6.out.on hb7 HA6.out.big
    have k1 := A7.r0
    have q1 := A7.r1
    have z0 : w7.cell? ⟨w3.heap.size + 1, 0, none⟩ = some (.slice ov (put fs (addTo f tx)).length cv) := (hb7.cell (by simp; omega)).trans (World.cell?_setCell_same _ _ _ y0)
    clear hd
    go_wp2_with fail
    refine bodyPost_ret (v := .tuple #[.agg #[.slice ov (put fs (addTo f tx)).length cv], .bool true]) (by simp [results, Try.results23, go_sem, k1, q1]) rfl (DiskRes.yes RD.out ?_ ?_)
    · have h1 := own_below (own_setCell HO5.out (p := ⟨w3.heap.size + 1, 0, none⟩) (by simp) (.slice ov (put fs (addTo f tx)).length cv)) hb7
      exact own_base (own_setCell h1 (by simp; omega) _) (by simp; omega)
    · exact A7.bel.setCell (by simp; omega) _

set_option maxRecDepth 100000 in
set_option maxHeartbeats 1000000 in
theorem specDoAct_new (oa : Option Addr) (n cap : Nat) (fs : List FileV) (nm tx : List UInt8) (w : World) (h : ActIn w oa n cap fs ⟨1, nm, tx, []⟩) (hok : diskOk fs = true) (hform : actForm ⟨1, nm, tx, []⟩) (hfa : fileAt fs nm = none) :
    Calls Try.prog 23 #[.agg #[.slice oa n cap], aval ⟨1, nm, tx, []⟩] w fun e w' => DiskRes w ((actL fs ⟨1, nm, tx, []⟩).getD []) (actL fs ⟨1, nm, tx, []⟩).isSome e w' := by
  obtain ⟨b1, b2, b3, b4⟩ := h.act
  simp only at b1 b2 b3
  obtain ⟨o1, o2, o3⟩ := (diskOk_iff fs).1 hok
  have HH := hide h
  have HOK := hide hok
  have HNM := hide hform.1
  have HO2 := hide o2
  have hn30 : n ≤ 30 := by have := h.at_.len; omega
  have HB0 := hide (blk3_below w oa n cap 1 nm tx [])
  unfold aval
  simp only
  have hix := atFrom_spec nm fs 0
  rw [hfa] at hix
  simp only [reduceCtorEq, and_true, false_and, and_false, exists_false, or_false] at hix
  have R := hide (actL_eq hok hform (gs := put fs ⟨nm, tx, 0⟩) (by unfold outL fileOr; rw [if_pos rfl, hfa]; rfl))
  have HIX := hide hix
  have HGF := hide (show ∀ g ∈ put fs ⟨nm, tx, 0⟩, Fine g by
    intro g hg
    rcases mem_put hg with rfl | hg
    · exact ⟨by simp; omega, by simp; omega, by show (Lit.int .i64 0).wf = true; decide⟩
    · exact fine_ok (o2 g hg))
  have hcat : (⟨#[]⟩ : ByteArray) ++ ⟨tx.toArray⟩ = ⟨tx.toArray⟩ := cat_list [] tx
  clear h hok hform o2 hfa hix
  go_enter Try.func23, Try.ntmps23
  go_wp2_with fail
  refine (specDiskOk_any oa n cap fs _ (HH.out.at_.below HB0.out) HH.out.fine).mono ?_
  rw [HOK.out]
  rintro e w2 ⟨rfl, hb2⟩
  have A2 := at3_of hb2
  have cu0 := A2.d0
  have cu1 := A2.a0
  have cu2 := A2.a1
  have cu3 := A2.a2
  have cu4 := A2.a3
  have cu5 := A2.r0
  have cu6 := A2.r1
  have HA2 := hide A2
  clear A2 hb2
  go_wp2_with (first
    | (go_at_call 46; refine (l03Name_any nm (by omega) _).mono ?_; rw [HNM.out]; rintro e wx ⟨rfl, hwx⟩; obtain rfl := hwx.symm)
    | (go_at_call 47; refine (l03At_any oa n cap fs nm _ (HH.out.at_.below HA2.out.bel)).mono ?_; rw [HIX.out]; rintro e w3 ⟨rfl, hb3⟩; have A3 := HA2.out.on hb3 HA2.out.big; have m0 := A3.d0; have m1 := A3.a0; have m2 := A3.a1; have m3 := A3.a2; have m4 := A3.a3; have m5 := A3.r0; have m6 := A3.r1; have m7 : w.heap.size + 3 ≤ w3.heap.size := A3.big; have m8 : w.heap.size < w3.heap.size := (by omega); have m9 : w.heap.size + 1 < w3.heap.size := (by omega); have m10 : w.heap.size + 1 + 1 < w3.heap.size := (by omega)))
  have hb4 : Below w3.heap.size w3 ((w3.alloc (.cells #[.string ⟨nm.toArray⟩, .string ⟨tx.toArray⟩, .int .i64 0] 49)).alloc (.cells #[.slice none 0 0] 26)) := ((Below.refl _ w3).alloc (Nat.le_refl _) _).alloc (by simp) _
  have A4 := A3.on hb4 A3.big
  have hY : ((w3.alloc (.cells #[.string ⟨nm.toArray⟩, .string ⟨tx.toArray⟩, .int .i64 0] 49)).alloc (.cells #[.slice none 0 0] 26)).heap[w3.heap.size + 1]? = some (.cells #[.slice none 0 0] 26 (0, 0)) := by
    have := heap_alloc_new (w3.alloc (.cells #[.string ⟨nm.toArray⟩, .string ⟨tx.toArray⟩, .int .i64 0] 49)) (.cells #[.slice none 0 0] 26)
    rwa [World.size_alloc] at this
  refine (l03Put_any oa n cap fs (⟨nm, tx, 0⟩) _ (HH.out.at_.below A4.bel) (by omega)).mono ?_
  rintro e w5 ⟨v, rfl, ho5, hb5⟩
  obtain ⟨ov, cv, rfl⟩ := own_form ho5
  have y0 : w5.cell? ⟨w3.heap.size + 1, 0, none⟩ = some (.slice none 0 0) := row_cell hb5 (by simp) hY 0
  have y1 : w5.frozen? ⟨w3.heap.size + 1, 0, none⟩ = false := row_free hb5 (by simp) hY 0
  have A5 := A4.on hb5 A4.big
  obtain ⟨oa6, cap6, heq6, hat6⟩ := filesAt_of_own (own_setCell ho5 (p := ⟨w3.heap.size + 1, 0, none⟩) (by simp) (.slice ov (put fs (⟨nm, tx, 0⟩)).length cv))
  cases heq6
  have b6 : Below (w3.heap.size + 1) w5 (w5.setCell ⟨w3.heap.size + 1, 0, none⟩ (.slice ov (put fs (⟨nm, tx, 0⟩)).length cv)) := (Below.refl _ _).setCell (p := ⟨w3.heap.size + 1, 0, none⟩) (Nat.le_refl _) _
  have A6 := A5.on b6 (by omega)
  have HAT6 := hide hat6
  have HA6 := hide A6
  have HO5 := hide ho5
  have s4 : w3.heap.size + 2 ≤ w5.heap.size := by have := hb5.size; simp at this; omega
  clear hat6 ho5 hb5 A4 A5 A6 b6 hY
  go_wp2_with fail
  refine (specDiskOk_any ov (put fs (⟨nm, tx, 0⟩)).length cv (put fs (⟨nm, tx, 0⟩)) _ HAT6.out HGF.out).mono ?_
  cases hd : diskOk (put fs (⟨nm, tx, 0⟩)) with
  | false =>
    have RD := hide (show actL fs ⟨1, nm, tx, []⟩ = none by rw [R.out, if_neg (by rw [hd]; simp)])
    rintro e w7 ⟨rfl, hb7⟩
    have A7 := HA6.out.on hb7 HA6.out.big
    have k1 := A7.r0
    have q1 := A7.r1
    clear hd
    go_wp2_with fail
    refine bodyPost_ret (v := .tuple #[.agg #[.slice none 0 0], .bool false]) (by simp [results, Try.results23, go_sem, k1, q1]) rfl (DiskRes.no RD.out ?_)
    exact A7.bel.setCell (by simp; omega) _
  | true =>
    have RD := hide (show actL fs ⟨1, nm, tx, []⟩ = some (put fs (⟨nm, tx, 0⟩)) by rw [R.out, if_pos hd])
    rintro e w7 ⟨rfl, hb7⟩
    have A7 := HA6.out.on hb7 HA6.out.big
    have k1 := A7.r0
    have q1 := A7.r1
    have z0 : w7.cell? ⟨w3.heap.size + 1, 0, none⟩ = some (.slice ov (put fs (⟨nm, tx, 0⟩)).length cv) := (hb7.cell (by simp; omega)).trans (World.cell?_setCell_same _ _ _ y0)
    clear hd
    go_wp2_with fail
    refine bodyPost_ret (v := .tuple #[.agg #[.slice ov (put fs (⟨nm, tx, 0⟩)).length cv], .bool true]) (by simp [results, Try.results23, go_sem, k1, q1]) rfl (DiskRes.yes RD.out ?_ ?_)
    · have h1 := own_below (own_setCell HO5.out (p := ⟨w3.heap.size + 1, 0, none⟩) (by simp) (.slice ov (put fs (⟨nm, tx, 0⟩)).length cv)) hb7
      exact own_base (own_setCell h1 (by simp; omega) _) (by simp; omega)
    · exact A7.bel.setCell (by simp; omega) _

set_option maxRecDepth 100000 in
set_option maxHeartbeats 1000000 in
theorem specDoAct_keep (oa : Option Addr) (n cap : Nat) (fs : List FileV) (nm : List UInt8) (w : World) (h : ActIn w oa n cap fs ⟨2, nm, [], []⟩) (hok : diskOk fs = true) (hform : actForm ⟨2, nm, [], []⟩) (f : FileV) (hfa : fileAt fs nm = some f) :
    Calls Try.prog 23 #[.agg #[.slice oa n cap], aval ⟨2, nm, [], []⟩] w fun e w' => DiskRes w ((actL fs ⟨2, nm, [], []⟩).getD []) (actL fs ⟨2, nm, [], []⟩).isSome e w' := by
  obtain ⟨b1, b2, b3, b4⟩ := h.act
  simp only at b1 b2 b3
  obtain ⟨o1, o2, o3⟩ := (diskOk_iff fs).1 hok
  have HH := hide h
  have HOK := hide hok
  have HNM := hide hform.1
  have HO2 := hide o2
  have hn30 : n ≤ 30 := by have := h.at_.len; omega
  have HB0 := hide (blk3_below w oa n cap 2 nm [] [])
  unfold aval
  simp only
  obtain ⟨hm, hn⟩ := fileAt_some hfa
  have hfo := (fileOk_iff f).1 (o2 f hm)
  have hl20 := hfo.2.1
  have hix := atFrom_spec nm fs 0
  rw [hfa] at hix
  simp only [Nat.zero_add, reduceCtorEq, and_false, false_or, Option.some.injEq] at hix
  obtain ⟨i, f', hix, hfi, rfl, hfn⟩ := hix
  clear hfn
  have hin : i < n := by have := (List.getElem?_eq_some_iff.1 hfi).1; have := h.at_.len; omega
  obtain ⟨f'', b, q, hf2, hidx, hb, e0, e1, e2⟩ := h.at_.get Try.underlying24 infoIF i hin
  rw [hfi] at hf2
  cases hf2
  have hi0 : (i : Int) < (n : Int) := by omega
  have HIX := hide hix
  have R := hide (actL_eq hok hform (gs := put fs (keepAll f)) (by unfold outL; rw [if_neg (by simp), hfa]; rfl))
  have HGF := hide (show ∀ g ∈ put fs (keepAll f), Fine g by
    intro g hg
    rcases mem_put hg with rfl | hg
    · have hff := fine_ok (o2 f hm)
      refine ⟨hff.1, hff.2.1, ?_⟩
      simp [keepAll, Lit.wf, IntKind.min, IntKind.max, IntKind.signed, IntKind.bits]
      omega
    · exact fine_ok (o2 g hg))
  clear h hok hform o2 hfo hm hn hfa hfi hix
  go_enter Try.func23, Try.ntmps23
  go_wp2_with fail
  refine (specDiskOk_any oa n cap fs _ (HH.out.at_.below HB0.out) HH.out.fine).mono ?_
  rw [HOK.out]
  rintro e w2 ⟨rfl, hb2⟩
  have A2 := at3_of hb2
  have cu0 := A2.d0
  have cu1 := A2.a0
  have cu2 := A2.a1
  have cu3 := A2.a2
  have cu4 := A2.a3
  have cu5 := A2.r0
  have cu6 := A2.r1
  have HA2 := hide A2
  clear A2 hb2
  go_wp2_with (first
    | (go_at_call 46; refine (l03Name_any nm (by omega) _).mono ?_; rw [HNM.out]; rintro e wx ⟨rfl, hwx⟩; obtain rfl := hwx.symm)
    | (go_at_call 47; refine (l03At_any oa n cap fs nm _ (HH.out.at_.below HA2.out.bel)).mono ?_; rw [HIX.out]; rintro e w3 ⟨rfl, hb3⟩; have A3 := HA2.out.on hb3 HA2.out.big; have m0 := A3.d0; have m1 := A3.a0; have m2 := A3.a1; have m3 := A3.a2; have m4 := A3.a3; have m5 := A3.r0; have m6 := A3.r1; have m7 : w.heap.size + 3 ≤ w3.heap.size := A3.big; have m8 : w.heap.size < w3.heap.size := (by omega); have m9 : w.heap.size + 1 < w3.heap.size := (by omega); have m10 : w.heap.size + 1 + 1 < w3.heap.size := (by omega); have x0 := (A3.bel.cell hb).trans e0; have x1 := (A3.bel.cell hb).trans e1; have x2 := (A3.bel.cell hb).trans e2; have hb3lt := Nat.lt_of_lt_of_le hb A3.bel.size))
  have hb4 : Below w3.heap.size w3 ((w3.alloc (.cells #[.string ⟨f.name.toArray⟩, .string ⟨f.text.toArray⟩, .int .i64 (f.text.length : Int)] 49)).alloc (.cells #[.slice none 0 0] 26)) := ((Below.refl _ w3).alloc (Nat.le_refl _) _).alloc (by simp) _
  have A4 := A3.on hb4 A3.big
  have hY : ((w3.alloc (.cells #[.string ⟨f.name.toArray⟩, .string ⟨f.text.toArray⟩, .int .i64 (f.text.length : Int)] 49)).alloc (.cells #[.slice none 0 0] 26)).heap[w3.heap.size + 1]? = some (.cells #[.slice none 0 0] 26 (0, 0)) := by
    have := heap_alloc_new (w3.alloc (.cells #[.string ⟨f.name.toArray⟩, .string ⟨f.text.toArray⟩, .int .i64 (f.text.length : Int)] 49)) (.cells #[.slice none 0 0] 26)
    rwa [World.size_alloc] at this
  refine (l03Put_any oa n cap fs (keepAll f) _ (HH.out.at_.below A4.bel) (by omega)).mono ?_
  rintro e w5 ⟨v, rfl, ho5, hb5⟩
  obtain ⟨ov, cv, rfl⟩ := own_form ho5
  have y0 : w5.cell? ⟨w3.heap.size + 1, 0, none⟩ = some (.slice none 0 0) := row_cell hb5 (by simp) hY 0
  have y1 : w5.frozen? ⟨w3.heap.size + 1, 0, none⟩ = false := row_free hb5 (by simp) hY 0
  have A5 := A4.on hb5 A4.big
  obtain ⟨oa6, cap6, heq6, hat6⟩ := filesAt_of_own (own_setCell ho5 (p := ⟨w3.heap.size + 1, 0, none⟩) (by simp) (.slice ov (put fs (keepAll f)).length cv))
  cases heq6
  have b6 : Below (w3.heap.size + 1) w5 (w5.setCell ⟨w3.heap.size + 1, 0, none⟩ (.slice ov (put fs (keepAll f)).length cv)) := (Below.refl _ _).setCell (p := ⟨w3.heap.size + 1, 0, none⟩) (Nat.le_refl _) _
  have A6 := A5.on b6 (by omega)
  have HAT6 := hide hat6
  have HA6 := hide A6
  have HO5 := hide ho5
  have s4 : w3.heap.size + 2 ≤ w5.heap.size := by have := hb5.size; simp at this; omega
  clear hat6 ho5 hb5 A4 A5 A6 b6 hY
  go_wp2_with fail
  refine (specDiskOk_any ov (put fs (keepAll f)).length cv (put fs (keepAll f)) _ HAT6.out HGF.out).mono ?_
  cases hd : diskOk (put fs (keepAll f)) with
  | false =>
    have RD := hide (show actL fs ⟨2, nm, [], []⟩ = none by rw [R.out, if_neg (by rw [hd]; simp)])
    rintro e w7 ⟨rfl, hb7⟩
    have A7 := HA6.out.on hb7 HA6.out.big
    have k1 := A7.r0
    have q1 := A7.r1
    clear hd
    go_wp2_with fail
    refine bodyPost_ret (v := .tuple #[.agg #[.slice none 0 0], .bool false]) (by simp [results, Try.results23, go_sem, k1, q1]) rfl (DiskRes.no RD.out ?_)
    exact A7.bel.setCell (by simp; omega) _
  | true =>
    have RD := hide (show actL fs ⟨2, nm, [], []⟩ = some (put fs (keepAll f)) by rw [R.out, if_pos hd])
    rintro e w7 ⟨rfl, hb7⟩
    have A7 := HA6.out.on hb7 HA6.out.big
    have k1 := A7.r0
    have q1 := A7.r1
    have z0 : w7.cell? ⟨w3.heap.size + 1, 0, none⟩ = some (.slice ov (put fs (keepAll f)).length cv) := (hb7.cell (by simp; omega)).trans (World.cell?_setCell_same _ _ _ y0)
    clear hd
    go_wp2_with fail
    refine bodyPost_ret (v := .tuple #[.agg #[.slice ov (put fs (keepAll f)).length cv], .bool true]) (by simp [results, Try.results23, go_sem, k1, q1]) rfl (DiskRes.yes RD.out ?_ ?_)
    · have h1 := own_below (own_setCell HO5.out (p := ⟨w3.heap.size + 1, 0, none⟩) (by simp) (.slice ov (put fs (keepAll f)).length cv)) hb7
      exact own_base (own_setCell h1 (by simp; omega) _) (by simp; omega)
    · exact A7.bel.setCell (by simp; omega) _

set_option maxRecDepth 100000 in
set_option maxHeartbeats 1000000 in
theorem specDoAct_drop (oa : Option Addr) (n cap : Nat) (fs : List FileV) (nm : List UInt8) (w : World) (h : ActIn w oa n cap fs ⟨4, nm, [], []⟩) (hok : diskOk fs = true) (hform : actForm ⟨4, nm, [], []⟩) (f : FileV) (hfa : fileAt fs nm = some f) :
    Calls Try.prog 23 #[.agg #[.slice oa n cap], aval ⟨4, nm, [], []⟩] w fun e w' => DiskRes w ((actL fs ⟨4, nm, [], []⟩).getD []) (actL fs ⟨4, nm, [], []⟩).isSome e w' := by
  obtain ⟨b1, b2, b3, b4⟩ := h.act
  simp only at b1 b2 b3
  obtain ⟨o1, o2, o3⟩ := (diskOk_iff fs).1 hok
  have HH := hide h
  have HOK := hide hok
  have HNM := hide hform.1
  have HO2 := hide o2
  have hn30 : n ≤ 30 := by have := h.at_.len; omega
  have HB0 := hide (blk3_below w oa n cap 4 nm [] [])
  unfold aval
  simp only
  obtain ⟨hm, hn⟩ := fileAt_some hfa
  have hfo := (fileOk_iff f).1 (o2 f hm)
  have hl20 := hfo.2.1
  have hix := atFrom_spec nm fs 0
  rw [hfa] at hix
  simp only [Nat.zero_add, reduceCtorEq, and_false, false_or, Option.some.injEq] at hix
  obtain ⟨i, f', hix, hfi, rfl, hfn⟩ := hix
  clear hfn
  have hin : i < n := by have := (List.getElem?_eq_some_iff.1 hfi).1; have := h.at_.len; omega
  obtain ⟨f'', b, q, hf2, hidx, hb, e0, e1, e2⟩ := h.at_.get Try.underlying24 infoIF i hin
  rw [hfi] at hf2
  cases hf2
  have hi0 : (i : Int) < (n : Int) := by omega
  have HIX := hide hix
  have R := hide (actL_eq hok hform (gs := without fs nm) (by unfold outL; rw [if_neg (by simp), hfa]; rfl))
  have HGF := hide (show ∀ g ∈ without fs nm, Fine g by
    intro g hg
    exact fine_ok (o2 g (mem_without hg)))
  clear h hok hform o2 hfo hm hn hfa hfi hix
  go_enter Try.func23, Try.ntmps23
  go_wp2_with fail
  refine (specDiskOk_any oa n cap fs _ (HH.out.at_.below HB0.out) HH.out.fine).mono ?_
  rw [HOK.out]
  rintro e w2 ⟨rfl, hb2⟩
  have A2 := at3_of hb2
  have cu0 := A2.d0
  have cu1 := A2.a0
  have cu2 := A2.a1
  have cu3 := A2.a2
  have cu4 := A2.a3
  have cu5 := A2.r0
  have cu6 := A2.r1
  have HA2 := hide A2
  clear A2 hb2
  go_wp2_with (first
    | (go_at_call 46; refine (l03Name_any nm (by omega) _).mono ?_; rw [HNM.out]; rintro e wx ⟨rfl, hwx⟩; obtain rfl := hwx.symm)
    | (go_at_call 47; refine (l03At_any oa n cap fs nm _ (HH.out.at_.below HA2.out.bel)).mono ?_; rw [HIX.out]; rintro e w3 ⟨rfl, hb3⟩; have A3 := HA2.out.on hb3 HA2.out.big; have m0 := A3.d0; have m1 := A3.a0; have m2 := A3.a1; have m3 := A3.a2; have m4 := A3.a3; have m5 := A3.r0; have m6 := A3.r1; have m7 : w.heap.size + 3 ≤ w3.heap.size := A3.big; have m8 : w.heap.size < w3.heap.size := (by omega); have m9 : w.heap.size + 1 < w3.heap.size := (by omega); have m10 : w.heap.size + 1 + 1 < w3.heap.size := (by omega); have x0 := (A3.bel.cell hb).trans e0; have x1 := (A3.bel.cell hb).trans e1; have x2 := (A3.bel.cell hb).trans e2; have hb3lt := Nat.lt_of_lt_of_le hb A3.bel.size))
  have hb4 : Below w3.heap.size w3 ((w3.alloc (.cells #[.string ⟨f.name.toArray⟩, .string ⟨f.text.toArray⟩, .int .i64 f.kept] 49)).alloc (.cells #[.slice none 0 0] 26)) := ((Below.refl _ w3).alloc (Nat.le_refl _) _).alloc (by simp) _
  have A4 := A3.on hb4 A3.big
  have hY : ((w3.alloc (.cells #[.string ⟨f.name.toArray⟩, .string ⟨f.text.toArray⟩, .int .i64 f.kept] 49)).alloc (.cells #[.slice none 0 0] 26)).heap[w3.heap.size + 1]? = some (.cells #[.slice none 0 0] 26 (0, 0)) := by
    have := heap_alloc_new (w3.alloc (.cells #[.string ⟨f.name.toArray⟩, .string ⟨f.text.toArray⟩, .int .i64 f.kept] 49)) (.cells #[.slice none 0 0] 26)
    rwa [World.size_alloc] at this
  refine (l03Without_any oa n cap fs nm _ (HH.out.at_.below A4.bel) (by omega)).mono ?_
  rintro e w5 ⟨v, rfl, ho5, hb5⟩
  obtain ⟨ov, cv, rfl⟩ := own_form ho5
  have y0 : w5.cell? ⟨w3.heap.size + 1, 0, none⟩ = some (.slice none 0 0) := row_cell hb5 (by simp) hY 0
  have y1 : w5.frozen? ⟨w3.heap.size + 1, 0, none⟩ = false := row_free hb5 (by simp) hY 0
  have A5 := A4.on hb5 A4.big
  obtain ⟨oa6, cap6, heq6, hat6⟩ := filesAt_of_own (own_setCell ho5 (p := ⟨w3.heap.size + 1, 0, none⟩) (by simp) (.slice ov (without fs nm).length cv))
  cases heq6
  have b6 : Below (w3.heap.size + 1) w5 (w5.setCell ⟨w3.heap.size + 1, 0, none⟩ (.slice ov (without fs nm).length cv)) := (Below.refl _ _).setCell (p := ⟨w3.heap.size + 1, 0, none⟩) (Nat.le_refl _) _
  have A6 := A5.on b6 (by omega)
  have HAT6 := hide hat6
  have HA6 := hide A6
  have HO5 := hide ho5
  have s4 : w3.heap.size + 2 ≤ w5.heap.size := by have := hb5.size; simp at this; omega
  clear hat6 ho5 hb5 A4 A5 A6 b6 hY
  go_wp2_with fail
  refine (specDiskOk_any ov (without fs nm).length cv (without fs nm) _ HAT6.out HGF.out).mono ?_
  cases hd : diskOk (without fs nm) with
  | false =>
    have RD := hide (show actL fs ⟨4, nm, [], []⟩ = none by rw [R.out, if_neg (by rw [hd]; simp)])
    rintro e w7 ⟨rfl, hb7⟩
    have A7 := HA6.out.on hb7 HA6.out.big
    have k1 := A7.r0
    have q1 := A7.r1
    clear hd
    go_wp2_with fail
    refine bodyPost_ret (v := .tuple #[.agg #[.slice none 0 0], .bool false]) (by simp [results, Try.results23, go_sem, k1, q1]) rfl (DiskRes.no RD.out ?_)
    exact A7.bel.setCell (by simp; omega) _
  | true =>
    have RD := hide (show actL fs ⟨4, nm, [], []⟩ = some (without fs nm) by rw [R.out, if_pos hd])
    rintro e w7 ⟨rfl, hb7⟩
    have A7 := HA6.out.on hb7 HA6.out.big
    have k1 := A7.r0
    have q1 := A7.r1
    have z0 : w7.cell? ⟨w3.heap.size + 1, 0, none⟩ = some (.slice ov (without fs nm).length cv) := (hb7.cell (by simp; omega)).trans (World.cell?_setCell_same _ _ _ y0)
    clear hd
    go_wp2_with fail
    refine bodyPost_ret (v := .tuple #[.agg #[.slice ov (without fs nm).length cv], .bool true]) (by simp [results, Try.results23, go_sem, k1, q1]) rfl (DiskRes.yes RD.out ?_ ?_)
    · have h1 := own_below (own_setCell HO5.out (p := ⟨w3.heap.size + 1, 0, none⟩) (by simp) (.slice ov (without fs nm).length cv)) hb7
      exact own_base (own_setCell h1 (by simp; omega) _) (by simp; omega)
    · exact A7.bel.setCell (by simp; omega) _

end Go.Proofs.Ytdcdlfkbdeogeaa
