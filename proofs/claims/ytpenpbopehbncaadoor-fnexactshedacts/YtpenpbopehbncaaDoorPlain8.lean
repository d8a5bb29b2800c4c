/-
  Disks in plain words, on: files in order of their names; what acts make of them.
-/
import Derived.Test.YtpenpbopehbncaaDoorPack3
namespace Go.Proofs.YtpenpbopehbncaaDoor.P5

theorem ltB_iff (x y : List UInt8) : ltB x y = true ↔ x < y := by simp [ltB]
theorem name_tri (x y : List UInt8) : x < y ∨ x = y ∨ y < x := by
  by_cases h : x < y
  · exact .inl h
  · rcases List.le_iff_lt_or_eq.1 (List.not_lt.1 h) with h1 | h1
    · exact .inr (.inr h1)
    · exact .inr (.inl h1.symm)
theorem name_irr (x : List UInt8) : ¬ x < x := List.lt_irrefl x
theorem name_trans {x y z : List UInt8} (h : x < y) (k : y < z) : x < z := List.lt_trans h k
theorem name_asymm {x y : List UInt8} (h : x < y) : ¬ y < x := fun k => name_irr _ (name_trans h k)
theorem name_ne {x y : List UInt8} (h : x < y) : x ≠ y := fun e => name_irr y (e ▸ h)

/-- Each name behind the one before. -/
def Asc (fs : List FileV) : Prop := fs.Pairwise fun f g => f.name < g.name

theorem okFrom_some : ∀ (fs : List FileV) (x : List UInt8), okFrom (some x) fs = true ↔ (∀ f ∈ fs, fileOk f = true) ∧ Asc fs ∧ ∀ f ∈ fs, x < f.name
  | [], x => by simp [okFrom, Asc]
  | f :: r, x => by
    unfold okFrom
    simp only [Bool.and_eq_true, ltB_iff, okFrom_some r f.name, Asc, List.pairwise_cons]
    constructor
    · rintro ⟨⟨h1, h2⟩, h3, h4, h5⟩
      refine ⟨?_, ⟨h5, h4⟩, ?_⟩
      · intro g hg
        rcases List.mem_cons.1 hg with rfl | hg
        · exact h1
        · exact h3 g hg
      · intro g hg
        rcases List.mem_cons.1 hg with rfl | hg
        · exact h2
        · exact name_trans h2 (h5 g hg)
    · rintro ⟨h1, ⟨h2, h3⟩, h4⟩
      exact ⟨⟨h1 f (by simp), h4 f (by simp)⟩, fun g hg => h1 g (by simp [hg]), h3, h2⟩

theorem okFrom_none (fs : List FileV) : okFrom none fs = true ↔ (∀ f ∈ fs, fileOk f = true) ∧ Asc fs := by
  cases fs with
  | nil => simp [okFrom, Asc]
  | cons f r =>
    unfold okFrom
    simp only [Bool.and_eq_true, okFrom_some r f.name, Asc, List.pairwise_cons, and_true]
    constructor
    · rintro ⟨h1, h2, h3, h4⟩
      refine ⟨?_, h4, h3⟩
      intro g hg
      rcases List.mem_cons.1 hg with rfl | hg
      · exact h1
      · exact h2 g hg
    · rintro ⟨h1, h2, h3⟩
      exact ⟨h1 f (by simp), fun g hg => h1 g (by simp [hg]), h3, h2⟩

theorem diskOk_iff (fs : List FileV) : diskOk fs = true ↔ fs.length ≤ 30 ∧ (∀ f ∈ fs, fileOk f = true) ∧ Asc fs := by
  unfold diskOk
  rw [Bool.and_eq_true, okFrom_none, decide_eq_true_eq]

theorem fileAt_some {fs : List FileV} {nm : List UInt8} {f : FileV} (h : fileAt fs nm = some f) : f ∈ fs ∧ f.name = nm := by
  unfold fileAt at h
  exact ⟨List.mem_of_find?_eq_some h, by have := List.find?_some h; simpa using this⟩

theorem fileAt_none {fs : List FileV} {nm : List UInt8} : fileAt fs nm = none ↔ ∀ f ∈ fs, f.name ≠ nm := by
  unfold fileAt
  simp [List.find?_eq_none]

theorem fileAt_cons (g : FileV) (r : List FileV) (nm : List UInt8) : fileAt (g :: r) nm = if g.name = nm then some g else fileAt r nm := by
  unfold fileAt
  rw [List.find?_cons]
  by_cases h : g.name = nm
  · simp [h]
  · have : (g.name == nm) = false := by simp [h]
    simp [this, h]

theorem fileAt_append (xs ys : List FileV) (nm : List UInt8) : fileAt (xs ++ ys) nm = (fileAt xs nm).or (fileAt ys nm) := by
  unfold fileAt; rw [List.find?_append]

theorem fileAt_mem {fs : List FileV} (h : Asc fs) {f : FileV} (hf : f ∈ fs) : fileAt fs f.name = some f := by
  induction fs with
  | nil => simp at hf
  | cons g r ih =>
    obtain ⟨h1, h2⟩ := List.pairwise_cons.1 h
    rw [fileAt_cons]
    rcases List.mem_cons.1 hf with rfl | hf
    · simp
    · rw [if_neg (name_ne (h1 f hf)), ih h2 hf]

theorem fileAt_filter {p : FileV → Bool} {nm : List UInt8} : ∀ (fs : List FileV), (∀ f ∈ fs, f.name = nm → p f = true) → fileAt (fs.filter p) nm = fileAt fs nm
  | [], _ => rfl
  | g :: r, h => by
    have ih := fileAt_filter (p := p) (nm := nm) r (fun f hf => h f (by simp [hf]))
    rw [fileAt_cons]
    by_cases e : g.name = nm
    · rw [if_pos e, List.filter_cons, if_pos (h g (by simp) e), fileAt_cons, if_pos e]
    · rw [if_neg e, List.filter_cons]
      split
      · rw [fileAt_cons, if_neg e, ih]
      · exact ih

theorem fileAt_put (fs : List FileV) (f : FileV) (nm : List UInt8) : fileAt (put fs f) nm = if nm = f.name then some f else fileAt fs nm := by
  unfold put
  rw [fileAt_append, fileAt_cons]
  by_cases e : nm = f.name
  · subst e
    have h1 : fileAt (fs.filter fun g => ltB g.name f.name) f.name = none := by
      rw [fileAt_none]
      intro g hg e
      have := (List.mem_filter.1 hg).2
      rw [ltB_iff, e] at this
      exact name_irr _ this
    rw [h1, if_pos rfl, if_pos rfl]
    rfl
  · rw [if_neg e, if_neg (fun h => e h.symm)]
    rcases name_tri nm f.name with h | h | h
    · have h2 : fileAt (fs.filter fun g => ltB f.name g.name) nm = none := by
        rw [fileAt_none]
        intro g hg e'
        have := (List.mem_filter.1 hg).2
        rw [ltB_iff, e'] at this
        exact name_asymm h this
      rw [fileAt_filter fs (fun g _ e' => by rw [ltB_iff, e']; exact h), h2]
      cases fileAt fs nm <;> rfl
    · exact absurd h e
    · have h2 : fileAt (fs.filter fun g => ltB g.name f.name) nm = none := by
        rw [fileAt_none]
        intro g hg e'
        have := (List.mem_filter.1 hg).2
        rw [ltB_iff, e'] at this
        exact name_asymm h this
      rw [fileAt_filter fs (p := fun g => ltB f.name g.name) (fun g _ e' => by rw [ltB_iff, e']; exact h), h2]
      rfl

theorem fileAt_without (fs : List FileV) (n nm : List UInt8) : fileAt (without fs n) nm = if nm = n then none else fileAt fs nm := by
  unfold without
  by_cases e : nm = n
  · rw [if_pos e, fileAt_none]
    intro g hg e'
    have := (List.mem_filter.1 hg).2
    simp [e', e] at this
  · rw [if_neg e]
    exact fileAt_filter fs (fun g _ e' => by simp [e', e])

theorem asc_put {fs : List FileV} (h : Asc fs) (f : FileV) : Asc (put fs f) := by
  unfold put Asc
  rw [List.pairwise_append, List.pairwise_cons]
  refine ⟨h.filter _, ⟨?_, h.filter _⟩, ?_⟩
  · intro g hg; exact (ltB_iff _ _).1 (List.mem_filter.1 hg).2
  · intro g hg k hk
    have hg' := (ltB_iff _ _).1 (List.mem_filter.1 hg).2
    rcases List.mem_cons.1 hk with rfl | hk
    · exact hg'
    · exact name_trans hg' ((ltB_iff _ _).1 (List.mem_filter.1 hk).2)

theorem asc_without {fs : List FileV} (h : Asc fs) (n : List UInt8) : Asc (without fs n) := h.filter _

theorem mem_put {fs : List FileV} {f g : FileV} (h : g ∈ put fs f) : g = f ∨ g ∈ fs := by
  unfold put at h
  rcases List.mem_append.1 h with h | h
  · exact .inr (List.mem_filter.1 h).1
  · rcases List.mem_cons.1 h with h | h
    · exact .inl h
    · exact .inr (List.mem_filter.1 h).1
theorem mem_without {fs : List FileV} {n : List UInt8} {g : FileV} (h : g ∈ without fs n) : g ∈ fs := (List.mem_filter.1 h).1
theorem put_mem (fs : List FileV) (f : FileV) : f ∈ put fs f := by unfold put; simp

theorem length_put : ∀ (fs : List FileV) (f : FileV), Asc fs → (put fs f).length = if (fileAt fs f.name).isSome then fs.length else fs.length + 1
  | [], f, _ => by simp [put, fileAt]
  | g :: r, f, h => by
    obtain ⟨h1, h2⟩ := List.pairwise_cons.1 h
    have ih := length_put r f h2
    unfold put at ih ⊢
    rw [fileAt_cons]
    rcases name_tri g.name f.name with e | e | e
    · have a1 : ltB g.name f.name = true := (ltB_iff _ _).2 e
      have a2 : ltB f.name g.name = false := by rw [Bool.eq_false_iff]; intro k; exact name_asymm e ((ltB_iff _ _).1 k)
      rw [if_neg (name_ne e)]
      simp only [List.filter_cons, a1, a2, if_true, Bool.false_eq_true, if_false, List.length_append, List.length_cons] at ih ⊢
      split at ih <;> simp_all <;> omega
    · have a1 : ltB g.name f.name = false := by rw [Bool.eq_false_iff]; intro k; exact name_irr _ (e ▸ (ltB_iff _ _).1 k)
      have a2 : ltB f.name g.name = false := by rw [Bool.eq_false_iff]; intro k; exact name_irr _ (e ▸ (ltB_iff _ _).1 k)
      have hn : fileAt r f.name = none := by rw [fileAt_none]; intro k hk e'; exact name_ne (h1 k hk) (by rw [e, e'])
      rw [hn] at ih
      rw [if_pos e]
      simp only [List.filter_cons, a1, a2, Bool.false_eq_true, if_false, List.length_append, List.length_cons, Option.isSome_some, Option.isSome_none, if_true] at ih ⊢
      omega
    · have a2 : ltB f.name g.name = true := (ltB_iff _ _).2 e
      have a1 : ltB g.name f.name = false := by rw [Bool.eq_false_iff]; intro k; exact name_asymm e ((ltB_iff _ _).1 k)
      rw [if_neg (show ¬ g.name = f.name from fun k => name_ne e k.symm)]
      simp only [List.filter_cons, a1, a2, if_true, Bool.false_eq_true, if_false, List.length_append, List.length_cons] at ih ⊢
      split at ih <;> simp_all <;> omega

theorem length_without : ∀ (fs : List FileV) (n : List UInt8), Asc fs → (without fs n).length + (if (fileAt fs n).isSome then 1 else 0) = fs.length
  | [], n, _ => by simp [without, fileAt]
  | g :: r, n, h => by
    obtain ⟨h1, h2⟩ := List.pairwise_cons.1 h
    have ih := length_without r n h2
    unfold without at ih ⊢
    rw [fileAt_cons, List.filter_cons]
    by_cases e : g.name = n
    · have hn : fileAt r n = none := by rw [fileAt_none]; intro k hk e'; exact name_ne (h1 k hk) (by rw [e, e'])
      rw [hn] at ih
      rw [if_neg (show ¬ ((g.name != n) = true) by simp [e]), if_pos e]
      simp only [Option.isSome_none, Bool.false_eq_true, if_false] at ih
      simp only [Option.isSome_some, if_true, List.length_cons]
      omega
    · rw [if_pos (show (g.name != n) = true by simp [e]), if_neg e]
      simp only [List.length_cons]
      omega

theorem diskOk_put {fs : List FileV} (h : diskOk fs = true) (f : FileV) : diskOk (put fs f) = true ↔ fileOk f = true ∧ (put fs f).length ≤ 30 := by
  obtain ⟨h1, h2, h3⟩ := (diskOk_iff fs).1 h
  rw [diskOk_iff]
  constructor
  · rintro ⟨a, b, _⟩
    exact ⟨b f (put_mem fs f), a⟩
  · rintro ⟨a, b⟩
    refine ⟨b, fun g hg => ?_, asc_put h3 f⟩
    rcases mem_put hg with rfl | hg
    · exact a
    · exact h2 g hg

theorem diskOk_without {fs : List FileV} (h : diskOk fs = true) (n : List UInt8) : diskOk (without fs n) = true := by
  obtain ⟨h1, h2, h3⟩ := (diskOk_iff fs).1 h
  rw [diskOk_iff]
  have := length_without fs n h3
  exact ⟨by omega, fun g hg => h2 g (mem_without hg), asc_without h3 n⟩

structure ActV where
  kind : Int
  name : List UInt8
  text : List UInt8
  to : List UInt8

/-- The file that an act speaks of: a new one where there is none. -/
def fileOr (fs : List FileV) (n : List UInt8) : FileV := (fileAt fs n).getD ⟨n, [], 0⟩

def addTo (f : FileV) (t : List UInt8) : FileV := ⟨f.name, f.text ++ t, f.kept⟩
def keepAll (f : FileV) : FileV := ⟨f.name, f.text, (f.text.length : Int)⟩
def named (f : FileV) (n : List UInt8) : FileV := ⟨n, f.text, f.kept⟩

/-- What an act makes, before it is asked whether that is right. -/
def outL (fs : List FileV) (a : ActV) : Option (List FileV) :=
  if a.kind = 1 then some (put fs (addTo (fileOr fs a.name) a.text))
  else match fileAt fs a.name with
    | none => none
    | some f =>
      if a.kind = 2 then some (put fs (keepAll f))
      else if a.kind = 3 then
        if f.kept < (f.text.length : Int) ∨ a.to = a.name ∨ nameOk a.to = false then none else some (put (without fs a.name) (named f a.to))
      else if a.kind = 4 then some (without fs a.name)
      else none

/-- The act's own form. -/
def actForm (a : ActV) : Prop := nameOk a.name = true ∧ (a.kind = 3 ∨ a.to = []) ∧ (a.kind = 1 ∨ a.text = [])
instance (a : ActV) : Decidable (actForm a) := by unfold actForm; infer_instance

/-- DoAct of a right disk. -/
def doL (fs : List FileV) (a : ActV) : Option (List FileV) :=
  if actForm a then (match outL fs a with | none => none | some out => if diskOk out = true then some out else none) else none

/-- DoAct. -/
def actL (fs : List FileV) (a : ActV) : Option (List FileV) := if diskOk fs = true then doL fs a else none

theorem doL_ok {fs out : List FileV} {a : ActV} (h : doL fs a = some out) : diskOk out = true := by
  unfold doL at h
  split at h
  · split at h
    · cases h
    · split at h
      · cases h; assumption
      · cases h
  · cases h

theorem fileOk_iff (f : FileV) : fileOk f = true ↔ nameOk f.name = true ∧ f.text.length ≤ 20000 ∧ 0 ≤ f.kept ∧ f.kept ≤ (f.text.length : Int) := by
  unfold fileOk
  simp only [Bool.and_eq_true, decide_eq_true_eq, and_assoc]

theorem doL_some {fs out : List FileV} {a : ActV} (hf : actForm a) (ho : outL fs a = some out) (hk : diskOk out = true) : doL fs a = some out := by
  unfold doL; rw [if_pos hf, ho]; simp [hk]
theorem doL_none {fs : List FileV} {a : ActV} (h : ¬ actForm a ∨ outL fs a = none ∨ ∃ out, outL fs a = some out ∧ diskOk out = false) : doL fs a = none := by
  unfold doL
  split
  · rename_i hf
    rcases h with h | h | ⟨out, h, h'⟩
    · exact absurd hf h
    · rw [h]
    · rw [h]; simp [h']
  · rfl

/-! ### Each kind, as the program asks for it -/
theorem do_add {fs : List FileV} (h : diskOk fs = true) (a : ActV) (hk : a.kind = 1) (hto : a.to = []) :
    doL fs a = match fileAt fs a.name with
      | some f => if f.text.length + a.text.length ≤ 20000 then some (put fs (addTo f a.text)) else none
      | none => if nameOk a.name = true ∧ fs.length ≠ 30 ∧ a.text.length ≤ 20000 then some (put fs ⟨a.name, a.text, 0⟩) else none := by
  obtain ⟨h1, h2, h3⟩ := (diskOk_iff fs).1 h
  have ho : outL fs a = some (put fs (addTo (fileOr fs a.name) a.text)) := by unfold outL; rw [if_pos hk]
  cases hf : fileAt fs a.name with
  | some f =>
    obtain ⟨hm, hn⟩ := fileAt_some hf
    have hfo := (fileOk_iff f).1 (h2 f hm)
    have hform : actForm a := ⟨by rw [← hn]; exact hfo.1, .inr hto, .inl hk⟩
    have ho' : outL fs a = some (put fs (addTo f a.text)) := by rw [ho]; unfold fileOr; rw [hf]; rfl
    have hl : (put fs (addTo f a.text)).length ≤ 30 := by
      rw [length_put fs _ h3]
      show (if (fileAt fs f.name).isSome then _ else _) ≤ 30
      rw [hn, hf]; simpa using h1
    dsimp only
    split
    · rename_i hle
      refine doL_some hform ho' ((diskOk_put h _).2 ⟨(fileOk_iff _).2 ⟨hfo.1, by simp [addTo]; omega, hfo.2.2.1, by simp [addTo]; omega⟩, hl⟩)
    · rename_i hle
      refine doL_none (.inr (.inr ⟨_, ho', ?_⟩))
      rw [Bool.eq_false_iff]
      intro hk2
      have := (fileOk_iff _).1 ((diskOk_put h _).1 hk2).1
      simp [addTo] at this
      omega
  | none =>
    have ho' : outL fs a = some (put fs ⟨a.name, a.text, 0⟩) := by rw [ho]; unfold fileOr; rw [hf]; rfl
    have hl : (put fs ⟨a.name, a.text, 0⟩).length = fs.length + 1 := by
      rw [length_put fs _ h3]
      show (if (fileAt fs a.name).isSome then _ else _) = _
      rw [hf]; rfl
    dsimp only
    split
    · rename_i hc
      refine doL_some ⟨hc.1, .inr hto, .inl hk⟩ ho' ((diskOk_put h _).2 ⟨(fileOk_iff _).2 ⟨hc.1, hc.2.2, Int.le_refl 0, by simp⟩, by omega⟩)
    · rename_i hc
      by_cases hn : nameOk a.name = true
      · refine doL_none (.inr (.inr ⟨_, ho', ?_⟩))
        rw [Bool.eq_false_iff]
        intro hk2
        obtain ⟨k1, k2⟩ := (diskOk_put h _).1 hk2
        have k3 := (fileOk_iff _).1 k1
        exact hc ⟨hn, by omega, k3.2.1⟩
      · exact doL_none (.inl (fun hform => hn hform.1))

theorem do_keep {fs : List FileV} (h : diskOk fs = true) (a : ActV) (hk : a.kind = 2) (hto : a.to = []) (htx : a.text = []) :
    doL fs a = match fileAt fs a.name with | some f => some (put fs (keepAll f)) | none => none := by
  obtain ⟨h1, h2, h3⟩ := (diskOk_iff fs).1 h
  cases hf : fileAt fs a.name with
  | none =>
    refine doL_none (.inr (.inl ?_))
    unfold outL; rw [if_neg (by omega), hf]
  | some f =>
    obtain ⟨hm, hn⟩ := fileAt_some hf
    have hfo := (fileOk_iff f).1 (h2 f hm)
    refine doL_some ⟨by rw [← hn]; exact hfo.1, .inr hto, .inr htx⟩ (by unfold outL; rw [if_neg (by omega), hf]; simp only [hk, if_true]) ((diskOk_put h _).2 ⟨(fileOk_iff _).2 ⟨hfo.1, hfo.2.1, by simp [keepAll], by simp [keepAll]⟩, ?_⟩)
    rw [length_put fs _ h3]
    show (if (fileAt fs f.name).isSome then _ else _) ≤ 30
    rw [hn, hf]; simpa using h1

theorem do_move {fs : List FileV} (h : diskOk fs = true) (a : ActV) (hk : a.kind = 3) (htx : a.text = []) :
    doL fs a = match fileAt fs a.name with | some f => if f.kept = (f.text.length : Int) ∧ a.to ≠ a.name ∧ nameOk a.to = true then some (put (without fs a.name) (named f a.to)) else none | none => none := by
  obtain ⟨h1, h2, h3⟩ := (diskOk_iff fs).1 h
  cases hf : fileAt fs a.name with
  | none =>
    refine doL_none (.inr (.inl ?_))
    unfold outL; rw [if_neg (by omega), hf]
  | some f =>
    obtain ⟨hm, hn⟩ := fileAt_some hf
    have hfo := (fileOk_iff f).1 (h2 f hm)
    dsimp only
    split
    · rename_i hc
      refine doL_some ⟨by rw [← hn]; exact hfo.1, .inl hk, .inr htx⟩ ?_ ((diskOk_put (diskOk_without h _) _).2 ⟨(fileOk_iff _).2 ⟨hc.2.2, hfo.2.1, hfo.2.2.1, hfo.2.2.2⟩, ?_⟩)
      · unfold outL
        rw [if_neg (by omega), hf]
        simp only [hk]
        rw [if_neg (by omega), if_pos trivial, if_neg]
        rintro (k | k | k)
        · omega
        · exact hc.2.1 k
        · rw [hc.2.2] at k; cases k
      · rw [length_put _ _ (asc_without h3 _)]
        have := length_without fs a.name h3
        rw [hf] at this
        simp at this
        split <;> omega
    · rename_i hc
      refine doL_none (.inr (.inl ?_))
      unfold outL
      rw [if_neg (by omega), hf]
      simp only [hk]
      rw [if_neg (by omega), if_pos trivial, if_pos]
      by_cases k1 : f.kept = (f.text.length : Int)
      · by_cases k2 : a.to = a.name
        · exact .inr (.inl k2)
        · right; right
          rw [Bool.eq_false_iff]
          exact fun k3 => hc ⟨k1, k2, k3⟩
      · left; have := hfo.2.2.2; omega

theorem do_drop {fs : List FileV} (h : diskOk fs = true) (a : ActV) (hk : a.kind = 4) (hto : a.to = []) (htx : a.text = []) :
    doL fs a = match fileAt fs a.name with | some _ => some (without fs a.name) | none => none := by
  obtain ⟨h1, h2, h3⟩ := (diskOk_iff fs).1 h
  cases hf : fileAt fs a.name with
  | none =>
    refine doL_none (.inr (.inl ?_))
    unfold outL; rw [if_neg (by omega), hf]
  | some f =>
    obtain ⟨hm, hn⟩ := fileAt_some hf
    have hfo := (fileOk_iff f).1 (h2 f hm)
    refine doL_some ⟨by rw [← hn]; exact hfo.1, .inr hto, .inr htx⟩ ?_ (diskOk_without h _)
    unfold outL
    rw [if_neg (by omega), hf]
    simp only [hk]
    rw [if_neg (by omega), if_neg (by omega), if_pos trivial]

theorem do_off {fs : List FileV} (a : ActV) (hk : (a.kind ≠ 1 ∧ a.kind ≠ 2 ∧ a.kind ≠ 3 ∧ a.kind ≠ 4) ∨ (a.kind ≠ 3 ∧ a.to ≠ []) ∨ (a.kind ≠ 1 ∧ a.text ≠ [])) : doL fs a = none := by
  rcases hk with hk | hk | hk
  · refine doL_none (.inr (.inl ?_))
    unfold outL
    rw [if_neg hk.1]
    cases fileAt fs a.name with
    | none => rfl
    | some f => simp only []; rw [if_neg hk.2.1, if_neg hk.2.2.1, if_neg hk.2.2.2]
  · exact doL_none (.inl (fun h => h.2.1.elim hk.1 hk.2))
  · exact doL_none (.inl (fun h => h.2.2.elim hk.1 hk.2))

/-- DoActs. -/
def doActsL : List FileV → List ActV → List FileV × Nat
  | fs, [] => (fs, 0)
  | fs, a :: r => match actL fs a with | none => (fs, 0) | some gs => ((doActsL gs r).1, (doActsL gs r).2 + 1)

end Go.Proofs.YtpenpbopehbncaaDoor.P5
