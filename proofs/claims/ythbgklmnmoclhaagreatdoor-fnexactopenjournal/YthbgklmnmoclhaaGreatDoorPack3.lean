/-
  Frames in plain words: one frame, the whole frame that stands at a place, the frames that a text begins with; what is written is read back, and of what is cut just the whole frames.
  A listed table, kept where only new memory is written.
  The table of halves as the rows list it.
  Walks of chapter 4: Frame, of the specification and of the program.
-/
import Derived.Test.YthbgklmnmoclhaaGreatDoorPlain1
import Derived.Test.YthbgklmnmoclhaaGreatDoorPack1
import Derived.Test.YthbgklmnmoclhaaGreatDoorPack2
import Derived.WalkSmall
import Derived.Lib.LaidTab
import Derived.Lib.SmallJoins
import Derived.Lib.AppendIntMem
import Derived.LaidSub
import Derived.Stop.Joined
import Derived.LaidMore
namespace Go.Proofs.YthbgklmnmoclhaaGreatDoor
open P1 P3

/-- A text in its frame. -/
def frameL (l : List UInt8) : List UInt8 := varB l.length ++ be32 (sumOfL l) ++ l

theorem frameL_length (l : List UInt8) : (frameL l).length = (varB l.length).length + 4 + l.length := by
  simp [frameL, be32_length]; omega

theorem varB_pos (n : Nat) : 1 ≤ (varB n).length := by
  unfold varB varF; split <;> simp

/-- The record of the whole frame that stands from a place on, and the place behind it. -/
def frameAt (l : List UInt8) (a : Nat) : Option (List UInt8 × Nat) :=
  match rdGo 5 [] (l.drop a) with
  | none => none
  | some (n, c) => if a + c + 4 + n ≤ l.length ∧ 1 ≤ n ∧ n ≤ 9000 ∧ frameL ((l.drop (a + c + 4)).take n) = (l.drop a).take (c + 4 + n) then some ((l.drop (a + c + 4)).take n, a + c + 4 + n) else none

theorem frameAt_nil {l : List UInt8} {a : Nat} (h : rdGo 5 [] (l.drop a) = none) : frameAt l a = none := by
  unfold frameAt; rw [h]
theorem frameAt_no {l : List UInt8} {a n c : Nat} (h : rdGo 5 [] (l.drop a) = some (n, c)) (hn : ¬ (a + c + 4 + n ≤ l.length ∧ 1 ≤ n ∧ n ≤ 9000 ∧ frameL ((l.drop (a + c + 4)).take n) = (l.drop a).take (c + 4 + n))) : frameAt l a = none := by
  unfold frameAt; rw [h]; exact if_neg hn
theorem frameAt_yes {l : List UInt8} {a n c : Nat} (h : rdGo 5 [] (l.drop a) = some (n, c)) (h1 : a + c + 4 + n ≤ l.length) (h2 : 1 ≤ n) (h3 : n ≤ 9000) (h4 : frameL ((l.drop (a + c + 4)).take n) = (l.drop a).take (c + 4 + n)) :
    frameAt l a = some ((l.drop (a + c + 4)).take n, a + c + 4 + n) := by
  unfold frameAt; rw [h]; exact if_pos ⟨h1, h2, h3, h4⟩

theorem frameAt_some {l : List UInt8} {a b : Nat} {r : List UInt8} (h : frameAt l a = some (r, b)) : a + 5 < b ∧ b ≤ l.length ∧ r.length ≤ 9000 := by
  unfold frameAt at h
  cases e : rdGo 5 [] (l.drop a) with
  | none => rw [e] at h; cases h
  | some p =>
    obtain ⟨n, c⟩ := p
    rw [e] at h
    have h1 := rdGo_some 5 [] _ n c e
    simp only [List.length_nil, Nat.zero_add] at h1
    dsimp only at h
    split at h
    · rename_i h2
      cases h
      refine ⟨by omega, h2.1, ?_⟩
      rw [List.length_take]; omega
    · cases h

/-- The records from a place on, and the place behind the last of them; at most 'f'. -/
def unframeF : Nat → List UInt8 → Nat → List (List UInt8) × Nat
  | 0, _, a => ([], a)
  | f + 1, l, a => match frameAt l a with
    | none => ([], a)
    | some (r, b) => (r :: (unframeF f l b).1, (unframeF f l b).2)

def unframeL (l : List UInt8) : List (List UInt8) × Nat := if l.length ≤ 20000 then unframeF l.length l 0 else ([], 0)

/-- What the loops of Unframe carry. -/
def UnfRel (l : List UInt8) (a : Nat) (xs : List (List UInt8)) : Prop :=
  ∃ f, l.length ≤ a + f ∧ a ≤ l.length ∧ l.length ≤ 20000 ∧ xs.length ≤ a ∧ (xs ++ (unframeF f l a).1, (unframeF f l a).2) = unframeL l

theorem UnfRel.start {l : List UInt8} (h : l.length ≤ 20000) : UnfRel l 0 [] :=
  ⟨l.length, by omega, Nat.zero_le _, h, Nat.le_refl _, by unfold unframeL; rw [if_pos h]; simp⟩

theorem UnfRel.ended {l : List UInt8} {a : Nat} {xs : List (List UInt8)} (h : UnfRel l a xs) (hn : frameAt l a = none) : unframeL l = (xs, a) := by
  obtain ⟨f, h1, h2, h3, h4, h5⟩ := h
  rw [← h5]
  cases f with
  | zero => simp [unframeF]
  | succ f => simp [unframeF, hn]

theorem UnfRel.next {l : List UInt8} {a b : Nat} {xs : List (List UInt8)} {r : List UInt8} (h : UnfRel l a xs) (hn : frameAt l a = some (r, b)) : UnfRel l b (xs ++ [r]) := by
  obtain ⟨f, h1, h2, h3, h4, h5⟩ := h
  have hb := frameAt_some hn
  cases f with
  | zero => omega
  | succ f =>
    refine ⟨f, by omega, hb.2.1, h3, by simp; omega, ?_⟩
    rw [← h5]
    simp [unframeF, hn]

theorem unframeL_long {l : List UInt8} (h : 20000 < l.length) : unframeL l = ([], 0) := by unfold unframeL; rw [if_neg (by omega)]

theorem frameAt_end {l : List UInt8} {a : Nat} (h : l.length ≤ a) : frameAt l a = none :=
  frameAt_nil (by rw [List.drop_eq_nil_of_le h]; exact rdGo_nil 5 [])

/-- What is read of a beginning is read of the whole. -/
theorem rdGo_more : ∀ (f : Nat) (pre t r : List UInt8) (v : Nat × Nat), rdGo f pre t = some v → rdGo f pre (t ++ r) = some v
  | 0, _, _, _, _, h => by simp [rdGo] at h
  | _ + 1, _, [], _, _, h => by simp [rdGo] at h
  | f + 1, pre, b :: t, r, v, h => by
    rw [List.cons_append]
    unfold rdGo at h ⊢
    split at h
    · rename_i hb
      rw [if_pos hb]; exact h
    · rename_i hb
      rw [if_neg hb]; exact rdGo_more f _ t r v h

/-- A whole frame is found. -/
theorem frameAt_whole (p r q : List UInt8) (h1 : 1 ≤ r.length) (h2 : r.length ≤ 9000) : frameAt (p ++ frameL r ++ q) p.length = some (r, (p ++ frameL r).length) := by
  have hd : (p ++ frameL r ++ q).drop p.length = varB r.length ++ (be32 (sumOfL r) ++ r ++ q) := by
    rw [List.append_assoc, List.drop_left]; simp [frameL, List.append_assoc]
  have hr : rdGo 5 [] ((p ++ frameL r ++ q).drop p.length) = some (r.length, (varB r.length).length) := by
    rw [hd]; exact rdGo_varB r.length (by omega) _
  have hl := frameL_length r
  have hrec : ((p ++ frameL r ++ q).drop (p.length + (varB r.length).length + 4)).take r.length = r := by
    have e : p ++ frameL r ++ q = (p ++ varB r.length ++ be32 (sumOfL r)) ++ (r ++ q) := by simp [frameL, List.append_assoc]
    rw [e, List.drop_append_of_le_length (by simp [be32_length]; omega), List.drop_of_length_le (by simp [be32_length]; omega)]
    simp
  have hfr : ((p ++ frameL r ++ q).drop p.length).take ((varB r.length).length + 4 + r.length) = frameL r := by
    rw [List.append_assoc, List.drop_left, ← hl, List.take_left]
  rw [frameAt_yes hr (by simp [hl]; omega) h1 h2 (by rw [hrec, hfr]), hrec]
  congr 2
  simp [hl]; omega

/-- A frame that is cut is none. -/
theorem frameAt_cut (p r t : List UInt8) (h2 : r.length ≤ 9000) (ht : t <+: frameL r) (hlt : t.length < (frameL r).length) : frameAt (p ++ t) p.length = none := by
  obtain ⟨u, hu⟩ := ht
  cases e : rdGo 5 [] ((p ++ t).drop p.length) with
  | none => exact frameAt_nil e
  | some v =>
    obtain ⟨n, c⟩ := v
    have e2 := e
    rw [List.drop_left] at e2
    have e3 := rdGo_more 5 [] t u _ e2
    rw [hu] at e3
    have e4 : rdGo 5 [] (frameL r) = some (r.length, (varB r.length).length) := by
      unfold frameL; rw [List.append_assoc]; exact rdGo_varB r.length (by omega) _
    rw [e4] at e3
    have hl := frameL_length r
    cases e3
    refine frameAt_no e ?_
    simp only [List.length_append]
    omega

end Go.Proofs.YthbgklmnmoclhaaGreatDoor

namespace Go.Proofs.YthbgklmnmoclhaaGreatDoor
open Go.RowKit P1 K
set_option linter.unusedVariables false

/-- What a listed variable holds stays where only new memory is written. -/
theorem tab_below {w w' : World} {name : String} {k : IntKind} {zs : List Int} (h : Lib.TabIs Tryz.prog w name k zs) (hb : Below w.heap.size w w') : Lib.TabIs Tryz.prog w' name k zs := by
  unfold Lib.TabIs at h ⊢
  cases hg : Tryz.prog.globalNamed name with
  | none => unfold World.var? at h; rw [hg] at h; cases h
  | some g =>
    refine var?_below hb hg ?_ h
    unfold World.var? at h
    rw [hg] at h
    simp only [Option.bind_some] at h
    rcases Nat.lt_or_ge g w.heap.size with hlt | hge
    · exact hlt
    · rw [Array.getElem?_eq_none hge] at h; cases h

end Go.Proofs.YthbgklmnmoclhaaGreatDoor

namespace Go.Proofs.YthbgklmnmoclhaaGreatDoor.K
/-- As many data as names. -/
theorem trodVars_len {H : Type} {enc : TypeId × Value → H} {P : Program} {w : World} {spare : Nat → Bool} : ∀ {ns : List String} {gs : List (DataW H)} {ps : List MemPlace}, DataW.TrodVars enc P w spare ns gs ps → gs.length = ns.length
  | [], [], _, _ => rfl
  | [], _ :: _, _, h => h.elim
  | _ :: _, [], _, h => h.elim
  | _ :: _, _ :: _, _, h => by
    obtain ⟨_, _, _, _, _, _, _, _, _, _, hs, _⟩ := h
    simp [trodVars_len hs]
end Go.Proofs.YthbgklmnmoclhaaGreatDoor.K

namespace Go.Proofs.YthbgklmnmoclhaaGreatDoor
open Go.RowKit P1 K P3
set_option linter.unusedVariables false

theorem sums_of_laid {row : List (String × DataW Unit)} {w : World} (e : row.filter (fun x => x.1 == "loop.example/g00127/impl.sumHalves") = [("loop.example/g00127/impl.sumHalves", Lib.tabData .u32 sumTab)]) (h : laidMetH Tryz.prog row w) : SumTabIs w := by
  have h1 := laidMetH.filter (fun x => x.1 == "loop.example/g00127/impl.sumHalves") h
  rw [e, MakeChecks.laidMetH_plain _ _ _ (by kernel_rfl)] at h1
  exact Lib.tabIs_of_head (rest := []) (g := 2) (by kernel_rfl) (t := 211) (by kernel_rfl) Tryz.underlying211 Tryz.underlying117 (by kernel_rfl) (by kernel_rfl) h1

end Go.Proofs.YthbgklmnmoclhaaGreatDoor

namespace Go.Proofs.YthbgklmnmoclhaaGreatDoor
open Go.RowKit P1 K P3
set_option linter.unusedVariables false

/-- The results of Frame as values. -/
def frameVal (l : List UInt8) : Value := if 1 ≤ l.length ∧ l.length ≤ 9000 then .tuple #[.string ⟨(frameL l).toArray⟩, .bool true] else .tuple #[.string ⟨#[]⟩, .bool false]

theorem frameVal_yes {l : List UInt8} (h1 : 1 ≤ l.length) (h2 : l.length ≤ 9000) : frameVal l = .tuple #[.string ⟨(frameL l).toArray⟩, .bool true] := if_pos ⟨h1, h2⟩
theorem frameVal_no {l : List UInt8} (h : l.length < 1 ∨ 9000 < l.length) : frameVal l = .tuple #[.string ⟨#[]⟩, .bool false] := if_neg (by omega)

theorem cat_frame (s : ByteArray) (n m : Nat) (hn : n = s.size) (hm : sumOfL (bl s) = m) : (⟨(varB n).toArray⟩ : ByteArray) ++ ⟨(be32 m).toArray⟩ ++ s = ⟨(frameL (bl s)).toArray⟩ := by
  subst hn; subst hm
  apply ByteArray.ext
  simp [frameL]

set_option maxHeartbeats 1000000 in
theorem specFrame_any (s : ByteArray) (hs : s.size ≤ 1048576) (w : World) :
    Calls Tryz.prog 44 #[.string s] w fun e w' => e = .returned (frameVal (bl s)) ∧ Below w.heap.size w w' := by
  by_cases hl : s.size < 1 ∨ 9000 < s.size
  · have R := hide (frameVal_no (l := bl s) (by rw [bl_length]; exact hl))
    go_enter Tryz.func44, Tryz.ntmps44
    go_wp2_with (go_at_call 37; refine (l01In_no _ _ _ (by omega) _).mono ?_; rintro e w1 ⟨rfl, rfl⟩)
    go_ret2
    exact ⟨by rw [R.out]; rfl, Below.refl _ _⟩
  · have R := hide (frameVal_yes (l := bl s) (by rw [bl_length]; omega) (by rw [bl_length]; omega))
    have hlt := sumOfL_lt (bl s)
    obtain ⟨m, hm⟩ : ∃ m, sumOfL (bl s) = m := ⟨_, rfl⟩
    have C := hide (cat_frame s s.size m rfl hm)
    have hsum := hide hm
    rw [hm] at hlt
    clear hm
    have hl0 : 1 ≤ s.size := by omega
    have hl1 : s.size ≤ 9000 := by omega
    have h4 : (⟨(be32 m).toArray⟩ : ByteArray).size = 4 := rfl
    have hv := varB_length s.size
    have h5 : (be32 m).length = 4 := rfl
    clear hl
    go_enter Tryz.func44, Tryz.ntmps44
    go_wp2_with (first
      | (go_at_call 37; refine (l01In_yes _ _ _ (by omega) (by omega) _).mono ?_; rintro e w1 ⟨rfl, rfl⟩)
      | (go_at_call 63; refine (l01Var_any s.size (by omega) _).mono ?_; rintro e w1 ⟨rfl, hb1⟩)
      | (go_at_call 68; refine (specSumOf_any s (by omega) _).mono ?_; rw [hsum.out]; rintro e w2 ⟨rfl, rfl⟩)
      | (go_at_call 67; refine (specFour_any m hlt _).mono ?_; rintro e w3 ⟨rfl, hb3⟩))
    go_ret2
    exact ⟨by rw [R.out, ← C.out]; rfl, hb1.trans (hb3.mono hb1.size)⟩

set_option maxHeartbeats 1000000 in
theorem implFrame_any (s : ByteArray) (hs : s.size ≤ 1048576) (w : World) (htab : SumTabIs w) :
    Calls Tryz.prog 111 #[.string s] w fun e w' => e = .returned (frameVal (bl s)) ∧ Below w.heap.size w w' := by
  have HT := hide htab
  clear htab
  by_cases hl : s.size < 1
  · have R := hide (frameVal_no (l := bl s) (by rw [bl_length]; exact Or.inl hl))
    have g1 : decide ((s.size : Int) < 1) = true := by simp; omega
    go_enter Tryz.func111, Tryz.ntmps111
    go_wp2_with fail
    go_ret2
    exact ⟨by rw [R.out]; rfl, Below.refl _ _⟩
  by_cases hl2 : 9000 < s.size
  · have R := hide (frameVal_no (l := bl s) (by rw [bl_length]; exact Or.inr hl2))
    have g1 : decide ((s.size : Int) < 1) = false := by simp; omega
    have g2 : decide ((9000 : Int) < (s.size : Int)) = true := by simp; omega
    go_enter Tryz.func111, Tryz.ntmps111
    go_wp2_with fail
    go_ret2
    exact ⟨by rw [R.out]; rfl, Below.refl _ _⟩
  · have R := hide (frameVal_yes (l := bl s) (by rw [bl_length]; omega) (by rw [bl_length]; omega))
    have g1 : decide ((s.size : Int) < 1) = false := by simp; omega
    have g2 : decide ((9000 : Int) < (s.size : Int)) = false := by simp; omega
    have hlt := sumOfL_lt (bl s)
    obtain ⟨m, hm⟩ : ∃ m, sumOfL (bl s) = m := ⟨_, rfl⟩
    have C := hide (cat_frame s s.size m rfl hm)
    have hsum := hide hm
    rw [hm] at hlt
    clear hm
    have hl0 : 1 ≤ s.size := by omega
    have hl1 : s.size ≤ 9000 := by omega
    have h4 : (⟨(be32 m).toArray⟩ : ByteArray).size = 4 := rfl
    have hv := varB_length s.size
    have h5 : (be32 m).length = 4 := rfl
    clear hl hl2
    go_enter Tryz.func111, Tryz.ntmps111
    go_wp2_with (first
      | (go_at_call 126; refine (implVarText_yes s.size (by omega) _).mono ?_; rintro e w1 ⟨rfl, hb1⟩)
      | (go_at_call 127; refine (implSumOf_any s (by omega) _ (tab_below HT.out hb1)).mono ?_; rw [hsum.out]; rintro e w2 ⟨rfl, rfl⟩)
      | (go_at_call 128; refine (implBytes_any m hlt _).mono ?_; rintro e w3 ⟨rfl, hb3⟩; have hconv := run_four 189 m hlt w3))
    go_ret2
    have hb := hb1.trans (hb3.mono hb1.size)
    exact ⟨by rw [R.out, ← C.out]; rfl, hb.alloc hb.size _⟩

end Go.Proofs.YthbgklmnmoclhaaGreatDoor
