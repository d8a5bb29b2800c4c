/-
  Walks and mathematics of Bk2.
-/
import Derived.Test.YtoalbeiinlcgpaaKBk1
import Derived.Test.YtoalbeiinlcgpaaKCloneI
import Derived.Test.YtoalbeiinlcgpaaKBox
import Derived.Test.YtoalbeiinlcgpaaKLog3
namespace Go.Proofs.Ytoalbeiinlcgpaa.P5
end Go.Proofs.Ytoalbeiinlcgpaa.P5
namespace Go.Proofs.Ytoalbeiinlcgpaa
open Go.RowKit P1 P5 P9 K Go.Shelf
set_option linter.unusedVariables false
set_option linter.unusedSimpArgs false

attribute [local go_sem] Oper.semAt_some

theorem bkUp_none {es : List EntV} (h : ∀ x ∈ bkUp es es.length, x.2.kind ≠ 2) : ∀ e ∈ es, e.kind ≠ 2 := by
  intro e he
  obtain ⟨j, hj, hje⟩ := List.getElem_of_mem he
  have h1 : bkAt es (es.length - 1 - j) ∈ bkUp es es.length := by
    simp only [bkUp, List.mem_map, List.mem_range]
    exact ⟨es.length - 1 - j, by omega, rfl⟩
  have h2 := h _ h1
  have h3 : es.length - 1 - (es.length - 1 - j) = j := by omega
  simp only [bkAt, h3, List.getElem?_eq_getElem hj, Option.getD_some, hje] at h2
  exact h2

theorem bkUp_found {es : List EntV} {k : Nat} (hk : k < es.length) (h : ∀ x ∈ bkUp es k, x.2.kind ≠ 2) (h2 : (bkAt es k).2.kind = 2) (c : List Int) : cfGo c es = confZ (bl (bkAt es k).2.data) := by
  have hi : es.length - 1 - k < es.length := by omega
  refine cfGo_last (i := es.length - 1 - k) c ?_ h2 ?_
  · simp only [bkAt, List.getElem?_eq_getElem hi, Option.getD_some]
  · intro j f hj hf
    have hjl : j < es.length := (List.getElem?_eq_some_iff.1 hf).1
    have hm : bkAt es (es.length - 1 - j) ∈ bkUp es k := by
      simp only [bkUp, List.mem_map, List.mem_range]
      exact ⟨es.length - 1 - j, by omega, rfl⟩
    have h3 := h _ hm
    have h4 : es.length - 1 - (es.length - 1 - j) = j := by omega
    simp only [bkAt, h4, hf, Option.getD_some] at h3
    exact h3

def BkI (w : World) (oe : Option Addr) (n ce : Nat) (es : List EntV) (xs : List (Nat × EntV)) (W : World) : Prop :=
  ((∀ x ∈ xs, x.2.kind ≠ 2) ∧ (Boxed W w.heap.size 22 (.slice none 0 0) ∧ Boxed W (w.heap.size + 1) 31 (.slice oe n ce))) ∧ Below w.heap.size w W

def BkX (w : World) (c : Code) (xs : List (Nat × EntV)) (W : World) : Prop :=
  ((c = .ret ∧ ∃ ini x, xs = ini ++ [x] ∧ (∀ y ∈ ini, y.2.kind ≠ 2) ∧ x.2.kind = 2 ∧ confOk (confZ (bl x.2.data)) = true) ∧ ∃ v, Boxed W w.heap.size 22 v ∧ W.ownsRow w.heap.size 3 1 v (confZ (bl (xs.getLastD (0, ⟨0, 0, ⟨#[]⟩⟩)).2.data)).length ((confZ (bl (xs.getLastD (0, ⟨0, 0, ⟨#[]⟩⟩)).2.data)).map icell) ∧ True) ∧ Below w.heap.size w W

theorem bkI_own (w : World) (oe : Option Addr) (n ce : Nat) (es : List EntV) (B : Nat) (hB : w.heap.size ≤ B) : OwnFrom B (BkI w oe n ce es) :=
  OwnFrom.and (OwnFrom.and (ownFrom_pure B _) (OwnFrom.and (Own.from (boxed_own w.heap.size 22 (fun _ => Value.slice none 0 0)) _) (Own.from (boxed_own (w.heap.size + 1) 31 (fun _ => Value.slice oe n ce)) _))) (ownFrom_below (Nat.le_refl _) hB)

theorem bkX_own (w : World) (c : Code) (B : Nat) (hB : w.heap.size ≤ B) : OwnFrom B (BkX w c) :=
  OwnFrom.and (OwnFrom.and (ownFrom_pure B _) (Own.from (holdsRow_own w.heap.size w.heap.size 22 3 1 (fun xs : List (Nat × EntV) => (confZ (bl (xs.getLastD (0, ⟨0, 0, ⟨#[]⟩⟩)).2.data)).length) (fun xs => (confZ (bl (xs.getLastD (0, ⟨0, 0, ⟨#[]⟩⟩)).2.data)).map icell) (fun _ _ => True)) _)) (ownFrom_below (Nat.le_refl _) hB)

set_option maxRecDepth 100000 in
set_option maxHeartbeats 4000000 in
theorem confBehind_any (oc : Option Addr) (nc cc : Nat) (cf : List Int) (oe : Option Addr) (n ce : Nat) (es : List EntV) (hn : n ≤ 1048576) (hnc : nc ≤ 1048576) (hok : ∀ e ∈ es, e.ok = true) (hsz : ∀ e ∈ es, e.data.size ≤ 1048576) (w : World) (hc : IntsAt w oc nc cc cf) (he : EntsAt w oe n ce es) :
    Calls Try.prog 69 #[.slice oc nc cc, .slice oe n ce] w fun e w' => ∃ v, e = .returned v ∧ w'.ownsRow w.heap.size 3 1 v (cfGo cf es).length ((cfGo cf es).map icell) ∧ Below w.heap.size w w' := by
  have hlen := he.len
  refine (callsIn_wide (n := 6)).1 ?_
  refine callsIn_of_wp_marks Try.func69 rfl trivial ?_ rfl
  simp only [Try.ntmps69, List.size_toArray, List.length_cons, List.length_nil, Nat.reduceAdd, Nat.reduceSub, Array.replicate_succ, Array.replicate_zero, List.push_toArray, List.append_toArray, List.nil_append, List.cons_append]
  gi_wp2_with (refine ⟨trivial, ?_⟩; gi_at_call 81; refine (backward_in _ _ _ _ _).mono ?_; rintro e w' ⟨rfl, rfl⟩)
  have hB0 : Below w.heap.size w ((w.alloc (.cells #[.slice none 0 0] 22)).alloc (.cells #[.slice oe n ce] 31)) := ((Below.refl _ w).alloc (Nat.le_refl _) _).alloc (by simp) _
  have b1 : Boxed ((w.alloc (.cells #[.slice none 0 0] 22)).alloc (.cells #[.slice oe n ce] 31)) w.heap.size 22 (.slice none 0 0) := (Boxed.new w 22 (.slice none 0 0)).alloc _
  have b2 : Boxed ((w.alloc (.cells #[.slice none 0 0] 22)).alloc (.cells #[.slice oe n ce] 31)) (w.heap.size + 1) 31 (.slice oe n ce) := by
    have := Boxed.new (w.alloc (.cells #[.slice none 0 0] 22)) 31 (.slice oe n ce)
    rw [World.size_alloc] at this
    exact this
  refine wpIn_rangeCap rfl (by omega) (gf := 85) (lb := #[.pointer (some ⟨w.heap.size + 1, 0, none⟩)]) rfl trivial (enters_of Try.func85 (by kernel_rfl) rfl) (backward_seq _ (by omega) (w.heap.size + 1) oe n ce es hn) (fun _ => rfl)
    (BkI w oe n ce es) (BkX w) (bkI_own w oe n ce es _ (by simp; omega)) (fun c => bkX_own w c _ (by simp; omega)) (fun xs W h => ⟨h.1.2.2.cell, he.below h.2⟩) ⟨⟨by simp, b1, b2⟩, hB0⟩
    (fun pre x a₁ W => (∃ b, a₁ = { tmps := #[.slice oc nc cc, .slice oe n ce, undef, undef, .pointer (some ⟨w.heap.size, 0, none⟩), undef, .pointer (some ⟨b, 0, none⟩), undef, undef, .slice oe n ce, .func (.func 85) #[] #[.pointer (some ⟨w.heap.size + 1, 0, none⟩)], .int .i64 (x.1 : Int), .agg #[.int .i64 x.2.term, .int .i64 x.2.kind, .string x.2.data], undef, undef, undef, undef, undef, undef, undef, undef, undef, undef, undef, undef], defers := [] } ∧ W.heap[b]? = some (.cells #[.int .i64 x.2.term, .int .i64 x.2.kind, .string x.2.data] 75 (0, 0)) ∧ w.heap.size + 2 ≤ b) ∧ BkI w oe n ce es pre W ∧ (pre.length < n ∧ x = bkAt es pre.length)) ?hA ?assign ?body ?done ?stop
  case hA =>
    intro pre x a₁ s X Y row ⟨⟨b, h1, h2, h3⟩, h4, h5⟩ hg hr
    exact ⟨⟨b, h1, (hg.block b (blk_lt h2) (fun e => by obtain ⟨_, o, ho, hcc⟩ := hr b e.symm; rw [h2] at ho; cases ho; cases hcc)).trans h2, h3⟩, bkI_own w oe n ce es _ (by simp; omega) pre X Y row h4 hg hr, h5⟩
  case assign =>
    intro l pre x W K hI hG hK
    dsimp only [bkEnc, eval]
    have hsz := hI.2.size
    have HI := hide hI
    have HG := hide hG
    have HK := hide hK
    clear hI hG hK
    gi_wp2
    refine HK.out _ _ ?_ ⟨⟨W.heap.size, rfl, heap_alloc_new _ _, ?_⟩, bkI_own w oe n ce es w.heap.size (Nat.le_refl _) pre W _ none HI.out ?_ (fun r e => by cases e), HG.out⟩
    · exact (KeepsOthers.alloc _ _).from _
    · have := HI.out.1.2.2.lt; omega
    · exact World.grownBy_alloc _ _ none
  case body =>
    rintro l pre x a₁ W ⟨⟨b, rfl, hblk, hlb⟩, hI, hG⟩
    have c0 := blk_cell hblk 0 rfl
    have c1 := blk_cell hblk 1 rfl
    have c2 := blk_cell hblk 2 rfl
    by_cases hk : x.2.kind = 2
    · have HKD := hide hk
      have k1 : (x.2.kind == 2) = true := by simpa using hk
      have hmem : x.2 ∈ es := by
        have h1 := hG.2
        have h2 : es.length - 1 - pre.length < es.length := by have := hG.1; omega
        rw [h1]
        simp only [bkAt, List.getElem?_eq_getElem h2, Option.getD_some]
        exact List.getElem_mem h2
      have hcf := okE_conf (hok _ hmem) hk
      have hds := hsz _ hmem
      have HR := implReadConf_any x.2.data hds
      rw [rdConf_yes hcf] at HR
      have HR := hide HR
      have HI := hide hI
      have HG := hide hG
      clear hI hG hmem
      gi_wp2_with (refine ⟨trivial, ?_⟩; gi_at_call 82; refine (callsIn_wide.2 (HR.out _)).mono ?_; rintro e w1 ⟨g, cap, rfl, hown, hb⟩; have hbx := HI.out.1.2.1; have hbx1 : Boxed w1 w.heap.size 22 (.slice none 0 0) := (hb.block _ hbx.lt).trans hbx; have hc1 := hbx1.cell; have hf1 := hbx1.frozen)
      have e1 : (pre ++ [x]).getLastD (0, ⟨0, 0, ⟨#[]⟩⟩) = x := by simp
      have hob := own_base hown (base' := w.heap.size) (Nat.le_trans (Nat.le_refl _) HI.out.2.size)
      refine ⟨((KeepsOthers.of_grownBy (grown_below (row := none) hb) (fun j o e => by cases e)).trans (KeepsOthers.setCell _ _ _)).from _, ⟨⟨rfl, pre, x, rfl, HI.out.1.1, HKD.out, hcf⟩, _, hbx1.set _, ?_, trivial⟩, (HI.out.2.trans (hb.mono HI.out.2.size)).setCell (p := ⟨w.heap.size, 0, none⟩) (Nat.le_refl _) _⟩
      rw [e1]
      exact hob.kept (grownBy_setCell' w1 w.heap.size _) (.inr (hbx1.not_row (by decide) hob).symm)
    · have k1 : (x.2.kind == 2) = false := by simpa using hk
      have k2 : decide (x.2.kind = 2) = false := by simpa using hk
      have HI := hide hI
      have HK := hide hk
      clear hI hG hk
      gi_wp2
      exact ⟨KeepsFrom.refl _ _, ⟨fun y hy => (List.mem_append.1 hy).elim (HI.out.1.1 y) (fun e => by simp at e; subst e; exact HK.out), HI.out.1.2⟩, HI.out.2⟩
  case done =>
    rintro D xs W hD rfl hI hK
    have hnone : cfGo cf es = cf := cfGo_none es cf (bkUp_none (by rw [hlen]; exact hI.1.1))
    have HC := hide (cloneInts_v oc nc cc cf hnc W (hc.below hI.2))
    have hl := hc.len
    have hD2 : w.heap.size + 1 + 1 ≤ D := by simpa using hD
    have HNONE := hide hnone
    have HI := hide hI
    have HK := hide hK
    have HL := hide hl
    have HD := hide hD2
    clear hI hK hl hD hD2 hnone
    gi_wp2_with (refine ⟨trivial, ?_⟩; gi_at_call 62; refine (callsIn_wide.2 HC.out).mono ?_; rintro e w1 ⟨v, rfl, hown, hb⟩; obtain ⟨ov, cv, he'⟩ := own_form3 hown; subst he'; have HOWN := hide hown; have HBW := hide hb; have hbx := HI.out.1.2.1; have hbx1 : Boxed w1 w.heap.size 22 (.slice none 0 0) := (hb.block _ hbx.lt).trans hbx; have hc1 := hbx1.cell; have hf1 := hbx1.frozen)
    have hob := own_base HOWN.out (base' := w.heap.size) HI.out.2.size
    have hK1 : w1.heap[D]? = some (.deferred (some [])) := (hb.block D (Array.getElem?_eq_some_iff.1 HK.out).1).trans HK.out
    have hK' := (KeepsOthers.setCell w1 ⟨w.heap.size, 0, none⟩ (.slice ov nc cv)).same D _ hK1 rfl
    have ho2 := hob.kept (grownBy_setCell' w1 w.heap.size (.slice ov nc cv)) (.inr (hbx1.not_row (by decide) hob).symm)
    have hB2 := (HI.out.2.trans (hb.mono HI.out.2.size)).setCell (p := ⟨w.heap.size, 0, none⟩) (Nat.le_refl _) (.slice ov nc cv)
    refine ⟨by simp, .inl ⟨_, _, rfl, run_takeDeferred hK', ?_⟩⟩
    have hc5 := cell_kept ((hbx1.set (.slice ov nc cv)).cell) (grownBy_putObj' _ D (.deferred none)) (fun r e => by cases e; exact ⟨_, hK', rfl⟩)
    refine ⟨.slice ov nc cv, ?_, _, rfl, ?_, hB2.trans (belowK_b (w := w) (Nat.le_refl _) _ D _ _ (by have := HD.out; omega) hK' rfl rfl)⟩
    · simp [results, Try.f69, go_sem, hc5]
    · rw [HNONE.out, HL.out]; exact ownsRow_putObj ho2 _ hK' rfl
  case stop =>
    rintro D c xs W hD ⟨k, hk, rfl⟩ ⟨⟨⟨rfl, ini, x, e1, e2, e3, e4⟩, v, hv, hown, -⟩, hB⟩ hK
    rw [bkUp_succ] at e1 hown
    obtain ⟨rfl, e5⟩ := List.append_inj' e1 rfl
    obtain rfl : bkAt es k = x := by simpa using e5
    have hcf := bkUp_found (by omega) e2 e3 cf
    have e6 : (bkUp es k ++ [bkAt es k]).getLastD (0, ⟨0, 0, ⟨#[]⟩⟩) = bkAt es k := by simp
    rw [e6, ← hcf] at hown
    have hD2 : w.heap.size + 1 + 1 ≤ D := by simpa using hD
    clear e1 e2 e3 e4 e5 e6 hcf hD
    gi_wp2
    refine ⟨by simp, .inl ⟨_, _, rfl, run_takeDeferred hK, ?_⟩⟩
    have hc5 := cell_kept hv.cell (grownBy_putObj' _ D (.deferred none)) (fun r e => by cases e; exact ⟨_, hK, rfl⟩)
    refine ⟨v, ?_, _, rfl, ownsRow_putObj hown _ hK rfl, hB.trans (belowK_b (w := w) (Nat.le_refl _) W D _ _ (by omega) hK rfl rfl)⟩
    simp [results, Try.f69, go_sem, hc5]

end Go.Proofs.Ytoalbeiinlcgpaa
