/-
  Walks of chapter 4: the reader of frames, and Unframe of the program.
-/
import Derived.Test.YtlkpcdkfgagnlaaDoorWalk4c
import Derived.Test.YtlkpcdkfgagnlaaDoorRangeBound
import Derived.Shelf.Abstract
import Derived.Shelf.RegionOpen
import Derived.OwnWalkIn
import Derived.TacticsInMore
import Derived.LoopNIn
import Derived.LoopIn
import Derived.Maps.AppendAt
import Derived.RangeFuncBox
namespace Go.Proofs.YtlkpcdkfgagnlaaDoor
open Go.RowKit P1 K P3 Go.Shelf
set_option linter.unusedVariables false

attribute [local go_sem] Oper.semAt_some

/-- A record and the place behind it, as they are handed on. -/
def handed (x : List UInt8 × Nat) : Array Value := #[.string ⟨x.1.toArray⟩, .int .i64 (x.2 : Int)]

/-- The place behind the last. -/
def endOf (xs : List (List UInt8 × Nat)) : Nat := xs.foldl (fun _ x => x.2) 0
theorem endOf_snoc (xs : List (List UInt8 × Nat)) (x : List UInt8 × Nat) : endOf (xs ++ [x]) = x.2 := by simp [endOf]

/-- All records came. -/
def allCame (l : List UInt8) (xs : List (List UInt8 × Nat)) : Prop := unframeL l = (xs.map (·.1), endOf xs)

set_option maxRecDepth 100000 in
set_option maxHeartbeats 2000000 in
theorem each_all (s : ByteArray) (hs : s.size ≤ 1048576) (n : Nat) (hn : 1 ≤ n) :
    SeqAll Fence.wide n Tryd.prog 26 #[.string s] handed SumTabIs (allCame (bl s)) 20000 := by
  intro l J W hJB hJT hY h0
  have hbl := bl_length s
  refine callsIn_of_wp Tryd.func26 rfl trivial ?_ rfl
  simp only [Tryd.ntmps26, List.size_toArray, List.length_cons, List.length_nil, Nat.reduceAdd, Nat.reduceSub, Array.replicate_succ, Array.replicate_zero, List.push_toArray, List.append_toArray, List.nil_append, List.cons_append]
  by_cases hlong : 20000 < s.size
  · have hno := hide (unframeL_long (l := bl s) (by rw [hbl]; exact hlong))
    gi_wp2
    refine bodyPost_ret (results_none rfl _ _ _) rfl ?_
    exact ⟨⟨_, rfl⟩, [], hno.out, h0⟩
  · gi_wp2
    gi_loopw [4] (fun p wr => ∃ xs : List (List UInt8 × Nat), p = .int .i64 (endOf xs : Int) ∧ UnfRel (bl s) (endOf xs) (xs.map (·.1)) ∧ J xs wr) (fun p _ => s.size - (intOf p).toNat)
    case atStart => exact ⟨[], rfl, UnfRel.start (by rw [hbl]; omega), h0⟩
    case round =>
      obtain ⟨xs, rfl, hr, hJ⟩ := hrel
      have ha : endOf xs ≤ s.size := by obtain ⟨f, _, h2, _⟩ := hr; omega
      have hxl : xs.length ≤ endOf xs := by obtain ⟨f, _, _, _, h4, _⟩ := hr; simpa using h4
      have HR := hide hr
      have hFA := hide (implFrameAt_any s hs (endOf xs) ha)
      clear hr
      cases hfa : frameAt (bl s) (endOf xs) with
      | none =>
        have R := hide (HR.out.ended hfa)
        have hf := hFA.out
        rw [hfa, show faVal none = .tuple #[.string ⟨#[]⟩, .int .i64 0, .bool false] from rfl] at hf
        have HF := hide hf
        clear hf hFA hfa
        obtain ⟨a, hae⟩ : ∃ a, endOf xs = a := ⟨_, rfl⟩
        have HA := hide hae
        rw [hae] at HF ⊢
        clear hae
        gi_wp2_with (refine ⟨trivial, ?_⟩; gi_at_call 34; refine (callsIn_wide.2 (HF.out _ (hJT _ _ hJ))).mono ?_; rintro e w1 ⟨rfl, hb1⟩)
        refine ⟨fun _ h => (by cases h), ?_⟩
        gi_wp2
        refine bodyPost_ret (results_none rfl _ _ _) rfl ?_
        exact ⟨⟨_, rfl⟩, xs, by rw [← HA.out] at *; exact R.out, hJB _ _ _ hJ hb1⟩
      | some p =>
        obtain ⟨r, b⟩ := p
        have hb := frameAt_some hfa
        have R := hide (HR.out.next hfa)
        have hf := hFA.out
        rw [hfa, show faVal (some (r, b)) = .tuple #[.string ⟨r.toArray⟩, .int .i64 (b : Int), .bool true] from rfl] at hf
        have HF := hide hf
        clear hf hFA hfa
        rw [hbl] at hb
        obtain ⟨hb1, hb2, hb3⟩ := hb
        obtain ⟨a, hae⟩ : ∃ a, endOf xs = a := ⟨_, rfl⟩
        have HA := hide hae
        rw [hae] at HF ha hxl hb1 ⊢
        clear hae
        gi_wp2_with (refine ⟨trivial, ?_⟩; gi_at_call 34; refine (callsIn_wide.2 (HF.out _ (hJT _ _ hJ))).mono ?_; rintro e w1 ⟨rfl, hbe⟩; obtain ⟨fn, tmps, assign, body, hy, hR⟩ := hY xs (r, b) w1 (hJB _ _ _ hJ hbe) (by omega); dsimp only [handed] at hy)
        refine hR.mono ?_
        rintro e W3 ⟨rfl, hJ3⟩
        gi_wp2
        go_roundw
        case rel => exact ⟨xs ++ [(r, b)], by rw [endOf_snoc], by rw [endOf_snoc, List.map_append]; exact R.out, hJ3⟩
        case measure => simp [intOf]; omega

/-- What the caller's own memory holds between two rounds. -/
def Came (w : World) (xs : List (List UInt8 × Nat)) (W : World) : Prop :=
  ((∃ v, Boxed W (w.heap.size + 1) 27 v ∧ W.ownsRow w.heap.size 9 1 v xs.length (strs (xs.map (·.1))) ∧ ∃ g cap, v = .slice (some ⟨g, 0, none⟩) xs.length cap) ∧
    Boxed W (w.heap.size + 2) 3 (.int .i64 (endOf xs : Int))) ∧ Below w.heap.size w W

theorem came_own (w : World) (B : Nat) (hB : w.heap.size ≤ B) : OwnFrom B (Came w) :=
  OwnFrom.and (OwnFrom.and (Own.from (holdsRow_own w.heap.size (w.heap.size + 1) 27 9 1 (fun xs : List (List UInt8 × Nat) => xs.length) (fun xs => strs (xs.map (·.1))) (fun xs v => ∃ g cap, v = .slice (some ⟨g, 0, none⟩) xs.length cap)) _)
    (Own.from (boxed_own (w.heap.size + 2) 3 (fun xs : List (List UInt8 × Nat) => Value.int .i64 (endOf xs : Int))) _)) (ownFrom_below (Nat.le_refl _) hB)

set_option maxRecDepth 100000 in
set_option maxHeartbeats 4000000 in
theorem implUnframe_any (s : ByteArray) (hs : s.size ≤ 1048576) (w : World) (htab : SumTabIs w) :
    Calls Tryd.prog 10 #[.string s] w fun e w' => UnfPost (bl s) w e w' := by
  obtain ⟨i0, hi, hz0, hz1, hz2⟩ := info_parts infoStr
  refine (callsIn_wide (n := 4)).1 ?_
  refine callsIn_of_wp_marks Tryd.func10 rfl trivial ?_ rfl
  simp only [Tryd.ntmps10, List.size_toArray, List.length_cons, List.length_nil, Nat.reduceAdd, Nat.reduceSub, Array.replicate_succ, Array.replicate_zero, List.push_toArray, List.append_toArray, List.nil_append, List.cons_append]
  gi_wp2
  have hB0 : Below w.heap.size w (((w.alloc (.cells #[] 9)).alloc (.cells #[.slice (some ⟨w.heap.size, 0, none⟩) 0 0] 27)).alloc (.cells #[.int .i64 0] 3)) := (((Below.refl _ w).alloc (Nat.le_refl _) _).alloc (by simp) _).alloc (by simp; omega) _
  have b1 : Boxed (((w.alloc (.cells #[] 9)).alloc (.cells #[.slice (some ⟨w.heap.size, 0, none⟩) 0 0] 27)).alloc (.cells #[.int .i64 0] 3)) (w.heap.size + 1) 27 (.slice (some ⟨w.heap.size, 0, none⟩) 0 0) := by
    have := Boxed.new (w.alloc (.cells #[] 9)) 27 (.slice (some ⟨w.heap.size, 0, none⟩) 0 0)
    rw [World.size_alloc] at this
    exact this.alloc _
  have b2 : Boxed (((w.alloc (.cells #[] 9)).alloc (.cells #[.slice (some ⟨w.heap.size, 0, none⟩) 0 0] 27)).alloc (.cells #[.int .i64 0] 3)) (w.heap.size + 2) 3 (.int .i64 0) := by
    have := Boxed.new ((w.alloc (.cells #[] 9)).alloc (.cells #[.slice (some ⟨w.heap.size, 0, none⟩) 0 0] 27)) 3 (.int .i64 0)
    rw [World.size_alloc, World.size_alloc] at this
    exact this
  have r0 : (((w.alloc (.cells #[] 9)).alloc (.cells #[.slice (some ⟨w.heap.size, 0, none⟩) 0 0] 27)).alloc (.cells #[.int .i64 0] 3)).ownsRow w.heap.size 9 1 (.slice (some ⟨w.heap.size, 0, none⟩) 0 0) 0 [] :=
    ((own_none (e := 9) (Below.refl w.heap.size w)).1.alloc _).alloc _
  refine wpIn_rangeBound rfl (by omega) (gf := 26) (fb := #[.string s]) rfl trivial (enters_of Tryd.func26 (by kernel_rfl) rfl) (each_all s hs _ (by omega)) (fun _ => rfl)
    (Came w) (came_own w _ (by simp; omega)) (fun xs W h => tab_below htab h.2) ⟨⟨⟨_, b1, r0, _, _, rfl⟩, b2⟩, hB0⟩
    (fun x => { tmps := #[.string s, undef, .slice none 0 0, .int .i64 0, .pointer (some ⟨w.heap.size + 1, 0, none⟩), .pointer (some ⟨w.heap.size + 1 + 1, 0, none⟩), .string ⟨x.1.toArray⟩, .int .i64 (x.2 : Int),
      .slice (some ⟨w.heap.size, 0, none⟩) 0 0, .string s, .func (.func 26) #[.string s] #[], .string ⟨x.1.toArray⟩, .int .i64 (x.2 : Int), undef, undef, undef, undef, undef, undef, undef], defers := [] }) ?assign ?body ?done
  case assign =>
    intro l x W K hK
    unfold handed
    gi_wp2
    exact hK
  case body =>
    rintro l pre x W ⟨⟨⟨v, hv, hrow, g, cap, rfl⟩, hE⟩, hB⟩ hlt
    have hc := hv.cell
    gi_wp2_with (gi_at_builtin; refine wpListIn_append_own _ rfl _ _ 27 rfl w.heap.size 9 i0 (.string ⟨#[]⟩) 1 16 Tryd.underlying27 hi hz0 hz1 hz2 rfl (by decide) _ _ _ rfl (hrow.alloc _) ⟨W.heap.size, 0, none⟩ 1 1 [.string ⟨x.1.toArray⟩] rfl rfl (cell_one_new _ _ _) (by simp [Value.oneCell']) (by unfold maxLen; omega) (by omega) (by have := hB.size; simp; omega) ?_; intro v' w1 hown' hgrow _; obtain ⟨g', cap', rfl⟩ := ownsRow_succ hown'; obtain ⟨hv1, hv2, hr2, hk2, hb2⟩ := hv.appended (by decide) hrow hB.size (by omega) hown' hgrow; have hc1 := hv1.cell; have hf1 := hv1.frozen; have hE1 := ((hE.alloc (.cells #[.string ⟨x.1.toArray⟩] 9)).kept hgrow (hE.not_row (by decide) hrow)).other (B' := w.heap.size + 1) (by omega) (.slice (some ⟨g', 0, none⟩) (pre.length + 1) cap'); have hc2 := hE1.cell; have hf2 := hE1.frozen)
    have hr3 := hr2.kept (grownBy_setCell' (w1.setCell ⟨w.heap.size + 1, 0, none⟩ (.slice (some ⟨g', 0, none⟩) (pre.length + 1) cap')) (w.heap.size + 2) (.int .i64 (x.2 : Int))) (.inr (hE1.not_row (by decide) hr2).symm)
    have e1 : (pre ++ [x]).length = pre.length + 1 := by simp
    have e2 : strs ((pre ++ [x]).map (·.1)) = strs (pre.map (·.1)) ++ [.string ⟨x.1.toArray⟩] := by rw [List.map_append, strs_append]; rfl
    refine ⟨(hk2.trans (KeepsOthers.setCell _ _ _)).from _, ⟨⟨_, hv2.other (B' := w.heap.size + 2) (by omega) _, ?_, g', cap', by rw [e1]⟩, ?_⟩, hB.trans (hb2.setCell (by simp; omega) _)⟩
    · rw [e1, e2]; exact hr3
    · rw [endOf_snoc]; exact hE1.set _
  case done =>
    rintro D xs W hD hS ⟨⟨⟨v, hv, hrow, g, cap, rfl⟩, hE⟩, hB⟩ hK
    have hc := hv.cell
    have hc2 := hE.cell
    gi_wp2
    gi_region
    gi_wp2
    have hKd : W.drew.heap[D]? = some (.deferred (some [])) := hK
    have hrd : W.drew.ownsRow w.heap.size 9 1 (.slice (some ⟨g, 0, none⟩) xs.length cap) xs.length (strs (xs.map (·.1))) := own_below hrow (Below.refl _ _).drew
    refine ⟨by simp, .inl ⟨_, _, rfl, run_takeDeferred hKd, ?_⟩⟩
    refine ⟨_, results_tmp2 (show Tryd.f10.results = #[(.tmp 2), (.tmp 3)] from rfl) _ _ _, UnfPost.mk hS (by simp) rfl (ownsRow_putObj hrd _ hKd rfl) (hB.drew.trans (belowK_b (w := w) (Nat.le_refl _) W.drew D _ _ (by simp at hD; omega) hKd rfl rfl))⟩

end Go.Proofs.YtlkpcdkfgagnlaaDoor
