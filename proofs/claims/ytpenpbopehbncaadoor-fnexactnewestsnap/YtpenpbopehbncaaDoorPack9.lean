/-
  Plain mathematics of chapter 8: the newest snapshot as the program finds it; names on a right disk; nothing of the program.
  Facts at this translation that many walks use: bytes, texts as lists of bytes, an index into a text.
  A listed table, kept where only new memory is written.
-/
import Derived.Test.YtpenpbopehbncaaDoorSnap1
import Derived.Test.YtpenpbopehbncaaDoorWalk3b
import Derived.Lib.Strings
import Derived.Test.YtpenpbopehbncaaDoorRows
import Derived.Test.YtpenpbopehbncaaDoorPlain1
import Derived.Test.YtpenpbopehbncaaDoorPack6
import Derived.WalkSmall
import Derived.Lib.LaidTab
import Derived.Lib.SmallJoins
import Derived.Lib.AppendIntMem
import Derived.LaidSub
import Derived.Stop.Joined
import Derived.LaidMore
namespace Go.Proofs.YtpenpbopehbncaaDoor
open P1 P3 P5 P9 P11
set_option linter.unusedVariables false

theorem disk_names8 {fs : List FileV} (h : diskOk fs = true) : fs.length ≤ 30 ∧ (∀ f ∈ fs, f.name.length ≤ 8) ∧ (∀ f ∈ fs, f.text.length ≤ 20000) ∧ Asc fs := by
  unfold diskOk at h
  simp only [Bool.and_eq_true, decide_eq_true_eq] at h
  obtain ⟨h1, h2⟩ := h
  have key : ∀ (gs : List FileV) (p : Option (List UInt8)), okFrom p gs = true → (∀ f ∈ gs, fileOk f = true) := by
    intro gs
    induction gs with
    | nil => intro p _ f hf; simp at hf
    | cons g r ih =>
      intro p hp f hf
      rw [okFrom_cons] at hp
      simp only [Bool.and_eq_true] at hp
      rcases List.mem_cons.1 hf with rfl | hf
      · exact hp.1.1
      · exact ih _ hp.2 f hf
  have k := key fs none h2
  refine ⟨h1, fun f hf => ?_, fun f hf => ?_, ?_⟩
  · have := k f hf
    simp [fileOk, nameOk] at this
    omega
  · have := k f hf
    simp [fileOk] at this
    omega
  · cases fs with
    | nil => exact List.Pairwise.nil
    | cons g r =>
      rw [okFrom_cons] at h2
      simp only [Bool.and_eq_true] at h2
      have h3 := (okFrom_some r g.name).1 h2.2
      exact List.pairwise_cons.2 ⟨h3.2.2, h3.2.1⟩

theorem hasPrefix_s (l : List UInt8) : Lib.hasPrefix l [115] = decide (l.head? = some 115) := by
  cases l with
  | nil => rfl
  | cons b r =>
    simp only [Lib.hasPrefix, List.isPrefixOf, List.head?_cons, Bool.and_true]
    by_cases h : b = 115
    · subst h; simp
    · have h1 : ((115 : UInt8) == b) = false := by rw [beq_eq_false_iff_ne]; exact fun e => h e.symm
      rw [h1]
      simp [h]

theorem trimS_cons (t : List UInt8) : Lib.trimPrefix (115 :: t) [115] = t := by
  unfold Lib.trimPrefix
  rw [hasPrefix_s]
  simp
theorem trimS_len (l : List UInt8) : (Lib.trimPrefix l [115]).length ≤ l.length := by
  unfold Lib.trimPrefix
  split
  · simp
  · exact Nat.le_refl _

/-- A name is a snapshot's just when its figures, written again behind the letter, are it. -/
theorem trimS_none {l : List UInt8} (h : rdDec (Lib.trimPrefix l [115]) = none) : snNumber l = -1 := by
  rw [← numS_is]
  cases l with
  | nil => rfl
  | cons b t =>
    unfold numS
    by_cases hb : b = 115
    · subst hb
      rw [trimS_cons] at h
      simp [h]
    · simp [hb]
theorem trimS_some {l : List UInt8} {n : Nat} (h : rdDec (Lib.trimPrefix l [115]) = some n) : snNumber l = if snName n = l then (n : Int) else -1 := by
  by_cases he : snName n = l
  · rw [if_pos he]
    by_cases hn : n ≤ 1000000
    · rw [← he]; exact snName_number (by omega)
    · rw [snName_out (by omega)] at he
      subst he
      have h1 : rdDec ([] : List UInt8) = some n := h
      exact (dec_nonemptyS n (rdDec_some h1) (rdDec_isS h1)).elim
  · rw [if_neg he]
    have hr := snNumber_range l
    by_cases hz : 0 ≤ snNumber l
    · exfalso
      have hnm := snNumber_name hz
      obtain ⟨M, hM⟩ := Int.eq_ofNat_of_zero_le hz
      rw [hM] at hnm hr
      have e1 : snName (M : Int) = 115 :: Lib.decDigits M := snName_in (by omega)
      rw [e1] at hnm
      rw [← hnm, trimS_cons, rdDec_dec M (by omega)] at h
      cases h
      exact he (by rw [e1, hnm])
    · omega

/-- As the program takes it: a later one of the same index takes its place. -/
def snBestI (m : Option SnV) (f : FileV) : Option SnV :=
  match snOf f with
  | none => m
  | some s => match m with | none => some s | some y => if s.index < y.index then some y else some s

theorem snBest_none {m : Option SnV} {f : FileV} (h : snOf f = none) : snBest m f = m := by unfold snBest; rw [h]
theorem snBest_first {f : FileV} {s : SnV} (h : snOf f = some s) : snBest none f = some s := by unfold snBest; rw [h]
theorem snBest_some {f : FileV} {s y : SnV} (h : snOf f = some s) : snBest (some y) f = if y.index < s.index then some s else some y := by unfold snBest; rw [h]
theorem snBestI_none {m : Option SnV} {f : FileV} (h : snOf f = none) : snBestI m f = m := by unfold snBestI; rw [h]
theorem snBestI_first {f : FileV} {s : SnV} (h : snOf f = some s) : snBestI none f = some s := by unfold snBestI; rw [h]
theorem snBestI_some {f : FileV} {s y : SnV} (h : snOf f = some s) : snBestI (some y) f = if s.index < y.index then some y else some s := by unfold snBestI; rw [h]

theorem foldl_next {α β : Type} (g : β → α → β) (z : β) {fs : List α} {k : Nat} {f : α} (h : fs[k]? = some f) : (fs.take (k + 1)).foldl g z = g ((fs.take k).foldl g z) f := by
  rw [List.take_add_one, h, List.foldl_append]
  rfl

theorem best_from {fs : List FileV} : ∀ (k : Nat) {y : SnV}, (fs.take k).foldl snBest none = some y → ∃ (j : Nat) (f : FileV), j < k ∧ fs[j]? = some f ∧ snOf f = some y := by
  intro k
  induction k with
  | zero => intro y h; simp at h
  | succ k ih =>
    intro y h
    cases hf : fs[k]? with
    | none =>
      have hk : fs.length ≤ k := List.getElem?_eq_none_iff.1 hf
      rw [List.take_of_length_le (by omega)] at h
      rw [List.take_of_length_le hk] at ih
      obtain ⟨j, f, h1, h2⟩ := ih h
      exact ⟨j, f, by omega, h2⟩
    | some f =>
      rw [foldl_next snBest none hf] at h
      cases hs : snOf f with
      | none =>
        rw [snBest_none hs] at h
        obtain ⟨j, f', h1, h2⟩ := ih h
        exact ⟨j, f', by omega, h2⟩
      | some s =>
        cases hm : (fs.take k).foldl snBest none with
        | none =>
          rw [hm, snBest_first hs] at h
          cases h
          exact ⟨k, f, by omega, hf, hs⟩
        | some y' =>
          rw [hm, snBest_some hs] at h
          split at h
          · cases h
            exact ⟨k, f, by omega, hf, hs⟩
          · cases h
            obtain ⟨j, f', h1, h2⟩ := ih hm
            exact ⟨j, f', by omega, h2⟩

theorem best_same {fs : List FileV} (ha : Asc fs) : ∀ (k : Nat), (fs.take k).foldl snBestI none = (fs.take k).foldl snBest none := by
  intro k
  induction k with
  | zero => rfl
  | succ k ih =>
    cases hf : fs[k]? with
    | none =>
      have hk : fs.length ≤ k := List.getElem?_eq_none_iff.1 hf
      rw [List.take_of_length_le (by omega)]
      rw [List.take_of_length_le hk] at ih
      exact ih
    | some f =>
      rw [foldl_next snBest none hf, foldl_next snBestI none hf, ih]
      cases hs : snOf f with
      | none => rw [snBest_none hs, snBestI_none hs]
      | some s =>
        cases hm : (fs.take k).foldl snBest none with
        | none => rw [snBest_first hs, snBestI_first hs]
        | some y =>
          rw [snBest_some hs, snBestI_some hs]
          obtain ⟨j, g, hj, hg, hgs⟩ := best_from k hm
          have hne : y.index ≠ s.index := by
            intro e
            obtain ⟨a1, a2⟩ := snOf_index hgs
            obtain ⟨b1, b2⟩ := snOf_index hs
            have n1 := snNumber_name (l := g.name) (by omega)
            have n2 := snNumber_name (l := f.name) (by omega)
            have hnm : g.name = f.name := by rw [← n1, ← n2, a1, b1, e]
            have hjl : j < fs.length := (List.getElem?_eq_some_iff.1 hg).1
            have hkl : k < fs.length := (List.getElem?_eq_some_iff.1 hf).1
            have hlt := (List.pairwise_iff_getElem.1 ha) j k hjl hkl hj
            rw [(List.getElem?_eq_some_iff.1 hg).2, (List.getElem?_eq_some_iff.1 hf).2, hnm] at hlt
            exact absurd hlt (List.lt_irrefl _)
          by_cases h1 : y.index < s.index
          · rw [if_pos h1, if_neg (by omega)]
          · rw [if_neg h1, if_pos (by omega)]

/-- What NewestSnap hands back. -/
def nwR (fs : List FileV) : Int × Int × List Int × List UInt8 × Bool :=
  if diskOk fs = true then (match snNewest fs with | none => (0, 0, [], [], false) | some s => (s.index, s.term, s.conf, s.body, true)) else (0, 0, [], [], false)

theorem snOf_neg {f : FileV} (h : snNumber f.name < 0) : snOf f = none := by
  cases hs : snOf f with
  | none => rfl
  | some s => have := snOf_index hs; omega
theorem snOf_none {f : FileV} (h : rdSnap f.text = none) : snOf f = none := by unfold snOf; rw [h]
theorem snOf_some {f : FileV} {i t : Nat} {z : List Int} {b : List UInt8} (h : rdSnap f.text = some (i, t, z, b)) : snOf f = if snNumber f.name = (i : Int) then some ⟨i, t, z, b⟩ else none := by unfold snOf; rw [h]

theorem snOf_conf {f : FileV} {s : SnV} (h : snOf f = some s) : confOk s.conf = true ∧ s.index ≤ 1000000 ∧ 0 ≤ s.index := by
  unfold snOf at h
  split at h
  · cases h
  · rename_i i t z b hr
    split at h
    · cases h
      have := rdSnap_bounds hr
      exact ⟨this.2.2.1, by simp; omega, by simp⟩
    · cases h

theorem newest_conf {fs : List FileV} {s : SnV} (h : snNewest fs = some s) : confOk s.conf = true ∧ s.index ≤ 1000000 ∧ 0 ≤ s.index := by
  unfold snNewest at h
  have h' : (fs.take fs.length).foldl snBest none = some s := by rw [List.take_of_length_le (Nat.le_refl _)]; exact h
  obtain ⟨j, f, -, -, hs⟩ := best_from _ h'
  exact snOf_conf hs

end Go.Proofs.YtpenpbopehbncaaDoor

namespace Go.Proofs.YtpenpbopehbncaaDoor
open Go.RowKit P1 K
set_option linter.unusedVariables false

theorem infoByte : (Tryd.prog.info? 5).map (fun i => (i.zero, i.size, i.bytes)) = some (some (.int .u8 0), 1, 1) := by kernel_rfl

theorem toNat_ofNat_small (x : Nat) (h : x < 256) : (UInt8.ofNat x).toNat = x := by
  simp [UInt8.toNat_ofNat']; omega

/-- The bytes of a text. -/
abbrev bl (s : ByteArray) : List UInt8 := s.data.toList

theorem bl_length (s : ByteArray) : (bl s).length = s.size := by simp

theorem bl_drop (s : ByteArray) (p : Nat) (h : p < s.size) : (bl s).drop p = s[p] :: (bl s).drop (p + 1) := by
  rw [List.drop_eq_getElem_cons (by simpa using h)]; rfl

theorem bl_take (s : ByteArray) (k : Nat) (h : k < s.size) : (bl s).take (k + 1) = (bl s).take k ++ [s[k]] := by
  rw [List.take_succ_eq_append_getElem (by simpa using h)]; rfl

/-- An index into a text, within its bounds. -/
theorem idx_any (s : ByteArray) (kd : IntKind) (k : Nat) (h : k < s.size) (wx : World) : (Instr.index 9 (.string s) (.int kd (k : Int))).run Tryd.prog wx = .ok (.int .u8 (s[k].toNat : Int)) wx := by
  rw [run_index_string (P := Tryd.prog) wx 9 s kd (k : Int) Tryd.underlying9, dif_pos ⟨by omega, by omega⟩]; rfl

/-- The sixteen figures as the program has them. -/
theorem idx_hex (kd : IntKind) (n : Nat) (h : n < 16) (wx : World) : (Instr.index 9 (.string ⟨#[48, 49, 50, 51, 52, 53, 54, 55, 56, 57, 97, 98, 99, 100, 101, 102]⟩) (.int kd (n : Int))).run Tryd.prog wx = .ok (.int .u8 ((figB n).toNat : Int)) wx := by
  rw [run_index_string (P := Tryd.prog) wx 9 _ kd (n : Int) Tryd.underlying9, dif_pos ⟨by omega, by show (n : Int) < 16; omega⟩]
  rcases (show n = 0 ∨ n = 1 ∨ n = 2 ∨ n = 3 ∨ n = 4 ∨ n = 5 ∨ n = 6 ∨ n = 7 ∨ n = 8 ∨ n = 9 ∨ n = 10 ∨ n = 11 ∨ n = 12 ∨ n = 13 ∨ n = 14 ∨ n = 15 by omega) with h | h | h | h | h | h | h | h | h | h | h | h | h | h | h | h <;> (subst h; rfl)

end Go.Proofs.YtpenpbopehbncaaDoor

namespace Go.Proofs.YtpenpbopehbncaaDoor
open Go.RowKit P1 K
set_option linter.unusedVariables false

/-- What a listed variable holds stays where only new memory is written. -/
theorem tab_below {w w' : World} {name : String} {k : IntKind} {zs : List Int} (h : Lib.TabIs Tryd.prog w name k zs) (hb : Below w.heap.size w w') : Lib.TabIs Tryd.prog w' name k zs := by
  unfold Lib.TabIs at h ⊢
  cases hg : Tryd.prog.globalNamed name with
  | none => unfold World.var? at h; rw [hg] at h; cases h
  | some g =>
    refine var?_below hb hg ?_ h
    unfold World.var? at h
    rw [hg] at h
    simp only [Option.bind_some] at h
    rcases Nat.lt_or_ge g w.heap.size with hlt | hge
    · exact hlt
    · rw [Array.getElem?_eq_none hge] at h; cases h

end Go.Proofs.YtpenpbopehbncaaDoor

namespace Go.Proofs.YtpenpbopehbncaaDoor.K
/-- As many data as names. -/
theorem trodVars_len {H : Type} {enc : TypeId × Value → H} {P : Program} {w : World} {spare : Nat → Bool} : ∀ {ns : List String} {gs : List (DataW H)} {ps : List MemPlace}, DataW.TrodVars enc P w spare ns gs ps → gs.length = ns.length
  | [], [], _, _ => rfl
  | [], _ :: _, _, h => h.elim
  | _ :: _, [], _, h => h.elim
  | _ :: _, _ :: _, _, h => by
    obtain ⟨_, _, _, _, _, _, _, _, _, _, hs, _⟩ := h
    simp [trodVars_len hs]
end Go.Proofs.YtpenpbopehbncaaDoor.K
