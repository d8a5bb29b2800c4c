/-
  Plain facts of acts: done one by one; what an added file holds, and that a dropped one is gone.
  FnKeeps: plain mathematics of what the power leaves; the law's own small functions.
-/
import Derived.Test.YtdcdlfkbdeogeaaWalk3z
import Derived.Test.YtdcdlfkbdeogeaaPack15
import Derived.Test.YtdcdlfkbdeogeaaKept
import Derived.Test.YtdcdlfkbdeogeaaWalkCut
import Derived.Test.YtdcdlfkbdeogeaaWalk3l
import Derived.Test.YtdcdlfkbdeogeaaPack10
import Derived.Test.YtdcdlfkbdeogeaaPack3
import Derived.Test.YtdcdlfkbdeogeaaPlain8
import Derived.Deep.QuietTactic
import Derived.BigQuiet
import Derived.Laws.StructEq
namespace Go.Proofs.Ytdcdlfkbdeogeaa
open Go.RowKit P5 K
set_option linter.unusedVariables false

theorem acts_step {fs gs : List FileV} {acs : List ActV} {j : Nat} {a : ActV} (h : SoFar fs acs j gs) (ha : acs[j]? = some a) (hj : j < (doActsL fs acs).2) : ∃ hs, actL gs a = some hs ∧ SoFar fs acs (j + 1) hs := by
  cases hr : actL gs a with
  | none =>
    have := h.stop ha hr
    rw [this] at hj
    simp at hj
  | some hs => exact ⟨hs, rfl, h.next ha hr⟩

theorem acts_none : ∀ (acs : List ActV) (gs : List FileV), (doActsL gs acs).2 = 0 → (doActsL gs acs).1 = gs
  | [], gs, _ => rfl
  | a :: r, gs, h => by
    cases hr : actL gs a with
    | none => rw [doActsL_none hr]
    | some hs =>
      rw [doActsL_some hr] at h
      simp at h

theorem acts_end {fs gs : List FileV} {acs : List ActV} {n : Nat} (h : SoFar fs acs n gs) (hn : (doActsL fs acs).2 = n) : gs = (doActsL fs acs).1 := by
  unfold SoFar at h
  have h2 : (doActsL fs acs).2 = n + (doActsL gs (acs.drop n)).2 := by rw [h]
  have h1 : (doActsL fs acs).1 = (doActsL gs (acs.drop n)).1 := by rw [h]
  rw [h1, acts_none _ _ (by omega)]

theorem acts_len : ∀ (acs : List ActV) (fs : List FileV), (doActsL fs acs).2 ≤ acs.length
  | [], fs => Nat.le_refl _
  | a :: r, fs => by
    cases hr : actL fs a with
    | none => rw [doActsL_none hr]; simp
    | some hs =>
      rw [doActsL_some hr]
      have := acts_len r hs
      simp
      exact this

theorem actsL_len : ∀ (acs : List ActV) (fs : List FileV), (doActsL fs acs).1.length ≤ fs.length ∨ (doActsL fs acs).1.length ≤ 30
  | [], fs => .inl (Nat.le_refl _)
  | a :: r, fs => by
    cases h : actL fs a with
    | none => rw [doActsL_none h]; exact .inl (Nat.le_refl _)
    | some gs =>
      rw [doActsL_some h]
      have hg : gs.length ≤ 30 := by have := Kp.actL_length fs a; rw [h] at this; exact this
      rcases actsL_len r gs with h1 | h1
      · exact .inr (Nat.le_trans h1 hg)
      · exact .inr h1

theorem actL_made {gs hs : List FileV} {a : ActV} (h : actL gs a = some hs) : outL gs a = some hs := by
  unfold actL at h
  split at h
  · unfold doL at h
    split at h
    · split at h
      · cases h
      · rename_i out ho
        split at h
        · cases h; exact ho
        · cases h
    · cases h
  · cases h

theorem fileOr_name (gs : List FileV) (n : List UInt8) : (fileOr gs n).name = n := by
  unfold fileOr
  cases hr : fileAt gs n with
  | none => rfl
  | some f => exact (fileAt_some hr).2

theorem act_add {gs hs : List FileV} {a : ActV} (h : actL gs a = some hs) (hk : a.kind = 1) : hasAt hs a.name = true ∧ textAt hs a.name = textAt gs a.name ++ a.text := by
  have ho := actL_made h
  unfold outL at ho
  rw [if_pos hk] at ho
  cases ho
  have hn : (addTo (fileOr gs a.name) a.text).name = a.name := fileOr_name gs a.name
  have hf : fileAt (put gs (addTo (fileOr gs a.name) a.text)) a.name = some (addTo (fileOr gs a.name) a.text) := by
    rw [fileAt_put, if_pos hn.symm]
  refine ⟨by unfold hasAt; rw [hf]; rfl, ?_⟩
  unfold textAt
  rw [hf]
  show (fileOr gs a.name).text ++ a.text = _
  congr 1
  unfold fileOr
  cases fileAt gs a.name <;> rfl

theorem act_drop {gs hs : List FileV} {a : ActV} (h : actL gs a = some hs) (hk : a.kind = 4) : hasAt hs a.name = false := by
  have ho := actL_made h
  unfold outL at ho
  rw [if_neg (by omega)] at ho
  cases hr : fileAt gs a.name with
  | none => rw [hr] at ho; cases ho
  | some f =>
    rw [hr] at ho
    simp only at ho
    rw [if_neg (by omega), if_neg (by omega), if_pos hk] at ho
    cases ho
    unfold hasAt
    rw [fileAt_without, if_pos rfl]
    rfl

theorem textAt_len {gs : List FileV} (h : ∀ f ∈ gs, Fine f) (n : List UInt8) : (textAt gs n).length ≤ 4194304 := by
  unfold textAt
  cases hr : fileAt gs n with
  | none => simp
  | some f => exact (h f (fileAt_some hr).1).2.1

theorem cutD_size (fs : List FileV) (acs : List ActV) (whole : Int) (left : List Int) : (cutD fs acs whole left).1.length ≤ fs.length ∨ (cutD fs acs whole left).1.length ≤ 30 := by
  have hl : ∀ gs : List FileV, (lost gs left).length ≤ gs.length := by
    intro gs
    unfold lost
    split
    · rw [lose_length]; exact Nat.le_refl _
    · simp
  unfold cutD
  split
  · split
    · exact .inr (by simp)
    · rcases actsL_len (acs.take whole.toNat) fs with h | h
      · exact .inl (Nat.le_trans (hl _) h)
      · exact .inr (Nat.le_trans (hl _) h)
  · exact .inr (by simp)

end Go.Proofs.Ytdcdlfkbdeogeaa

namespace Go.Proofs.Ytdcdlfkbdeogeaa
open Go.RowKit P5 K
set_option linter.unusedVariables false
set_option linter.unusedSimpArgs false

theorem loseF_len {f : FileV} (h : fileOk f = true) (n : Int) : (loseF f n).text.length = P5.leftOf f n := by
  have := leftOf_le h n
  simp [loseF]
  omega

theorem loseF_ok {f : FileV} (h : fileOk f = true) (n : Int) : fileOk (loseF f n) = true := by
  have h1 := loseF_len h n
  have h2 := leftOf_le h n
  have h3 := (fileOk_iff f).1 h
  refine (fileOk_iff _).2 ⟨h3.1, ?_, ?_, ?_⟩
  · rw [h1]; omega
  · show 0 ≤ (P5.leftOf f n : Int); omega
  · rw [h1]; show (P5.leftOf f n : Int) ≤ _; omega

theorem okFrom_lose (left : List Int) : ∀ (fs : List FileV) (p : Option (List UInt8)) (k : Nat), okFrom p fs = true → okFrom p (fs.mapIdx fun i f => loseF f (left.getD (i + k) 0)) = true
  | [], _, _, _ => rfl
  | f :: r, p, k, h => by
    rw [okFrom_cons] at h
    simp only [Bool.and_eq_true] at h
    rw [List.mapIdx_cons, okFrom_cons]
    simp only [Bool.and_eq_true]
    refine ⟨⟨loseF_ok h.1.1 _, h.1.2⟩, ?_⟩
    have := okFrom_lose left r (some f.name) (k + 1) h.2
    have e : (fun (i : Nat) (f : FileV) => loseF f (left.getD (i + 1 + k) 0)) = fun i f => loseF f (left.getD (i + (k + 1)) 0) := by
      funext i f
      rw [show i + 1 + k = i + (k + 1) by omega]
    rw [e]
    exact this

theorem lose_ok {fs : List FileV} (h : diskOk fs = true) (left : List Int) : diskOk (lose fs left) = true := by
  unfold diskOk at *
  simp only [Bool.and_eq_true, decide_eq_true_eq] at *
  refine ⟨by rw [lose_length]; exact h.1, ?_⟩
  have := okFrom_lose left fs none 0 h.2
  simpa [lose] using this

theorem lose_get (fs : List FileV) (left : List Int) (i : Nat) : (lose fs left)[i]? = fs[i]?.map fun f => loseF f (left.getD i 0) := by
  simp [lose, List.getElem?_mapIdx]

theorem lose_again {fs : List FileV} (h : diskOk fs = true) (left left' : List Int) : lose (lose fs left) left' = lose fs left := by
  apply List.ext_getElem?
  intro i
  rw [lose_get, lose_get]
  cases hf : fs[i]? with
  | none => rfl
  | some f =>
    simp only [Option.map_some]
    rw [loseF_again (diskOk_mem h f (List.mem_of_getElem? hf))]

theorem lose_kept {fs : List FileV} (h : diskOk fs = true) (left : List Int) : allKept (lose fs left) = true := by
  unfold allKept
  rw [lose_ok h, Bool.true_and, List.all_eq_true]
  intro y hy
  obtain ⟨i, hi⟩ := List.getElem?_of_mem hy
  rw [lose_get] at hi
  cases hf : fs[i]? with
  | none => rw [hf] at hi; cases hi
  | some f =>
    rw [hf] at hi
    cases hi
    unfold keptF
    rw [loseF_kept (diskOk_mem h f (List.mem_of_getElem? hf))]
    simp

/-- What is left begins the text; what was kept begins what is left. -/
theorem lose_begins {f : FileV} (h : fileOk f = true) (n : Int) : (loseF f n).text = f.text.take (loseF f n).text.length ∧ (loseF f n).text.length ≤ f.text.length ∧ f.kept.toNat ≤ (loseF f n).text.length ∧ f.text.take f.kept.toNat = (loseF f n).text.take f.kept.toNat := by
  have h1 := loseF_len h n
  have h2 := leftOf_le h n
  have h3 := fileOk_kept h
  have h4 : f.kept.toNat ≤ P5.leftOf f n := by unfold P5.leftOf; omega
  refine ⟨by rw [h1]; rfl, by omega, by omega, ?_⟩
  show _ = (f.text.take (P5.leftOf f n)).take f.kept.toNat
  rw [List.take_take, Nat.min_eq_left h4]

set_option maxHeartbeats 2000000 in
theorem sameDisk_same (oa : Option Addr) (n cap : Nat) (ob : Option Addr) (cap' : Nat) (fs : List FileV) (hn20 : n ≤ 1048576) (w : World) (hat : FilesAt w oa n cap fs) (hbt : FilesAt w ob n cap' fs) :
    Calls Try.prog 8 #[.agg #[.slice oa n cap], .agg #[.slice ob n cap']] w fun e w' => e = .returned (.bool true) ∧ Below w.heap.size w w' := by
  have HB0 := hide (((Below.refl w.heap.size w).alloc (Nat.le_refl _) (.cells #[.slice oa n cap] 26)).alloc (by simp) (.cells #[.slice ob n cap'] 26))
  have HAT := hide hat
  have HBT := hide hbt
  clear hat hbt
  go_enter Try.func8, Try.ntmps8
  go_wp2_with fail
  go_loopw [5] (fun i wr => ∃ (j q : Nat), i = .int .i64 (j : Int) ∧ j ≤ n ∧ wr = ((w.alloc (.cells #[.slice oa n cap] 26)).alloc (.cells #[.slice ob n cap'] 26)).drewN q) (fun i _ => n - (intOf i).toNat)
  case atStart => exact ⟨0, 0, rfl, Nat.zero_le _, rfl⟩
  case round =>
    obtain ⟨j, q, rfl, hj, rfl⟩ := hrel
    by_cases hlt : j < n
    · have j0 : (j : Int) < (n : Int) := by omega
      obtain ⟨f, b, p, hf, hidx, hb, c0, c1, c2⟩ := (HAT.out.below HB0.out).get Try.underlying24 infoIF j hlt
      obtain ⟨f', b', p', hf', hidx', hb', c0', c1', c2'⟩ := (HBT.out.below HB0.out).get Try.underlying24 infoIF j hlt
      rw [hf] at hf'
      cases hf'
      clear hf
      go_wp2_with fail
      go_quiet (fail)
      go_wp2_with fail
      go_roundw
      case rel => exact ⟨j + 1, q + nq, by go_num, by omega, by simp⟩
      case measure => simp [intOf]; omega
    · go_wp2_with fail
      go_ret
      exact ⟨rfl, below_drewN HB0.out _⟩

end Go.Proofs.Ytdcdlfkbdeogeaa
