/-
  A listed table, kept where only new memory is written.
  The table of halves as the rows list it.
  Walks of chapter 4: Frame, of the specification and of the program.
  Plain mathematics of chapter 5: how an entry is read, step by step.
-/
import Derived.Test.YthbgklmnmoclhaaDoorPack6
import Derived.WalkSmall
import Derived.Lib.LaidTab
import Derived.Lib.SmallJoins
import Derived.Lib.AppendIntMem
import Derived.LaidSub
import Derived.Stop.Joined
import Derived.LaidMore
import Derived.Test.YthbgklmnmoclhaaDoorPack20
import Derived.Test.YthbgklmnmoclhaaDoorPlain6
import Derived.Test.YthbgklmnmoclhaaDoorPlain9
namespace Go.Proofs.YthbgklmnmoclhaaDoor
open Go.RowKit P1 K
set_option linter.unusedVariables false

/-- What a listed variable holds stays where only new memory is written. -/
theorem tab_below {w w' : World} {name : String} {k : IntKind} {zs : List Int} (h : Lib.TabIs Tryd.prog w name k zs) (hb : Below w.heap.size w w') : Lib.TabIs Tryd.prog w' name k zs := by
  unfold Lib.TabIs at h ⊢
  cases hg : Tryd.prog.globalNamed name with
  | none => unfold World.var? at h; rw [hg] at h; cases h
  | some g =>
    refine var?_below hb hg ?_ h
    unfold World.var? at h
    rw [hg] at h
    simp only [Option.bind_some] at h
    rcases Nat.lt_or_ge g w.heap.size with hlt | hge
    · exact hlt
    · rw [Array.getElem?_eq_none hge] at h; cases h

end Go.Proofs.YthbgklmnmoclhaaDoor

namespace Go.Proofs.YthbgklmnmoclhaaDoor.K
/-- As many data as names. -/
theorem trodVars_len {H : Type} {enc : TypeId × Value → H} {P : Program} {w : World} {spare : Nat → Bool} : ∀ {ns : List String} {gs : List (DataW H)} {ps : List MemPlace}, DataW.TrodVars enc P w spare ns gs ps → gs.length = ns.length
  | [], [], _, _ => rfl
  | [], _ :: _, _, h => h.elim
  | _ :: _, [], _, h => h.elim
  | _ :: _, _ :: _, _, h => by
    obtain ⟨_, _, _, _, _, _, _, _, _, _, hs, _⟩ := h
    simp [trodVars_len hs]
end Go.Proofs.YthbgklmnmoclhaaDoor.K

namespace Go.Proofs.YthbgklmnmoclhaaDoor
open Go.RowKit P1 K P3
set_option linter.unusedVariables false

theorem sums_of_laid {row : List (String × DataW Unit)} {w : World} (e : row.filter (fun x => x.1 == "loop.example/g00127/impl.sumHalves") = [("loop.example/g00127/impl.sumHalves", Lib.tabData .u32 sumTab)]) (h : laidMetH Tryd.prog row w) : SumTabIs w := by
  have h1 := laidMetH.filter (fun x => x.1 == "loop.example/g00127/impl.sumHalves") h
  rw [e, MakeChecks.laidMetH_plain _ _ _ (by kernel_rfl)] at h1
  exact Lib.tabIs_of_head (rest := []) (g := 2) (by kernel_rfl) (t := 182) (by kernel_rfl) Tryd.underlying182 Tryd.underlying73 (by kernel_rfl) (by kernel_rfl) h1

end Go.Proofs.YthbgklmnmoclhaaDoor

namespace Go.Proofs.YthbgklmnmoclhaaDoor
open Go.RowKit P1 K P3
set_option linter.unusedVariables false

/-- The results of Frame as values. -/
def frameVal (l : List UInt8) : Value := if 1 ≤ l.length ∧ l.length ≤ 9000 then .tuple #[.string ⟨(frameL l).toArray⟩, .bool true] else .tuple #[.string ⟨#[]⟩, .bool false]

theorem frameVal_yes {l : List UInt8} (h1 : 1 ≤ l.length) (h2 : l.length ≤ 9000) : frameVal l = .tuple #[.string ⟨(frameL l).toArray⟩, .bool true] := if_pos ⟨h1, h2⟩
theorem frameVal_no {l : List UInt8} (h : l.length < 1 ∨ 9000 < l.length) : frameVal l = .tuple #[.string ⟨#[]⟩, .bool false] := if_neg (by omega)

theorem cat_frame (s : ByteArray) (n m : Nat) (hn : n = s.size) (hm : sumOfL (bl s) = m) : (⟨(varB n).toArray⟩ : ByteArray) ++ ⟨(be32 m).toArray⟩ ++ s = ⟨(frameL (bl s)).toArray⟩ := by
  subst hn; subst hm
  apply ByteArray.ext
  simp [frameL]

set_option maxHeartbeats 1000000 in
theorem specFrame_any (s : ByteArray) (hs : s.size ≤ 1048576) (w : World) :
    Calls Tryd.prog 23 #[.string s] w fun e w' => e = .returned (frameVal (bl s)) ∧ Below w.heap.size w w' := by
  by_cases hl : s.size < 1 ∨ 9000 < s.size
  · have R := hide (frameVal_no (l := bl s) (by rw [bl_length]; exact hl))
    go_enter Tryd.func23, Tryd.ntmps23
    go_wp2_with (go_at_call 17; refine (l01In_no _ _ _ (by omega) _).mono ?_; rintro e w1 ⟨rfl, rfl⟩)
    go_ret2
    exact ⟨by rw [R.out]; rfl, Below.refl _ _⟩
  · have R := hide (frameVal_yes (l := bl s) (by rw [bl_length]; omega) (by rw [bl_length]; omega))
    have hlt := sumOfL_lt (bl s)
    obtain ⟨m, hm⟩ : ∃ m, sumOfL (bl s) = m := ⟨_, rfl⟩
    have C := hide (cat_frame s s.size m rfl hm)
    have hsum := hide hm
    rw [hm] at hlt
    clear hm
    have hl0 : 1 ≤ s.size := by omega
    have hl1 : s.size ≤ 9000 := by omega
    have h4 : (⟨(be32 m).toArray⟩ : ByteArray).size = 4 := rfl
    have hv := varB_length s.size
    have h5 : (be32 m).length = 4 := rfl
    clear hl
    go_enter Tryd.func23, Tryd.ntmps23
    go_wp2_with (first
      | (go_at_call 17; refine (l01In_yes _ _ _ (by omega) (by omega) _).mono ?_; rintro e w1 ⟨rfl, rfl⟩)
      | (go_at_call 24; refine (l01Var_any s.size (by omega) _).mono ?_; rintro e w1 ⟨rfl, hb1⟩)
      | (go_at_call 46; refine (specSumOf_any s (by omega) _).mono ?_; rw [hsum.out]; rintro e w2 ⟨rfl, rfl⟩)
      | (go_at_call 45; refine (specFour_any m hlt _).mono ?_; rintro e w3 ⟨rfl, hb3⟩))
    go_ret2
    exact ⟨by rw [R.out, ← C.out]; rfl, hb1.trans (hb3.mono hb1.size)⟩

set_option maxHeartbeats 1000000 in
theorem implFrame_any (s : ByteArray) (hs : s.size ≤ 1048576) (w : World) (htab : SumTabIs w) :
    Calls Tryd.prog 50 #[.string s] w fun e w' => e = .returned (frameVal (bl s)) ∧ Below w.heap.size w w' := by
  have HT := hide htab
  clear htab
  by_cases hl : s.size < 1
  · have R := hide (frameVal_no (l := bl s) (by rw [bl_length]; exact Or.inl hl))
    have g1 : decide ((s.size : Int) < 1) = true := by simp; omega
    go_enter Tryd.func50, Tryd.ntmps50
    go_wp2_with fail
    go_ret2
    exact ⟨by rw [R.out]; rfl, Below.refl _ _⟩
  by_cases hl2 : 9000 < s.size
  · have R := hide (frameVal_no (l := bl s) (by rw [bl_length]; exact Or.inr hl2))
    have g1 : decide ((s.size : Int) < 1) = false := by simp; omega
    have g2 : decide ((9000 : Int) < (s.size : Int)) = true := by simp; omega
    go_enter Tryd.func50, Tryd.ntmps50
    go_wp2_with fail
    go_ret2
    exact ⟨by rw [R.out]; rfl, Below.refl _ _⟩
  · have R := hide (frameVal_yes (l := bl s) (by rw [bl_length]; omega) (by rw [bl_length]; omega))
    have g1 : decide ((s.size : Int) < 1) = false := by simp; omega
    have g2 : decide ((9000 : Int) < (s.size : Int)) = false := by simp; omega
    have hlt := sumOfL_lt (bl s)
    obtain ⟨m, hm⟩ : ∃ m, sumOfL (bl s) = m := ⟨_, rfl⟩
    have C := hide (cat_frame s s.size m rfl hm)
    have hsum := hide hm
    rw [hm] at hlt
    clear hm
    have hl0 : 1 ≤ s.size := by omega
    have hl1 : s.size ≤ 9000 := by omega
    have h4 : (⟨(be32 m).toArray⟩ : ByteArray).size = 4 := rfl
    have hv := varB_length s.size
    have h5 : (be32 m).length = 4 := rfl
    clear hl hl2
    go_enter Tryd.func50, Tryd.ntmps50
    go_wp2_with (first
      | (go_at_call 73; refine (implVarText_yes s.size (by omega) _).mono ?_; rintro e w1 ⟨rfl, hb1⟩)
      | (go_at_call 74; refine (implSumOf_any s (by omega) _ (tab_below HT.out hb1)).mono ?_; rw [hsum.out]; rintro e w2 ⟨rfl, rfl⟩)
      | (go_at_call 75; refine (implBytes_any m hlt _).mono ?_; rintro e w3 ⟨rfl, hb3⟩; have hconv := run_four 111 m hlt w3))
    go_ret2
    have hb := hb1.trans (hb3.mono hb1.size)
    exact ⟨by rw [R.out, ← C.out]; rfl, hb.alloc hb.size _⟩

end Go.Proofs.YthbgklmnmoclhaaDoor

namespace Go.Proofs.YthbgklmnmoclhaaDoor.P9
open P1

/-- Not an entry's text: at each step. -/
theorem rdEntry_nil : rdEntry [] = none := rfl

theorem rdEntry_head {l : List UInt8} (h : l.head? ≠ some 69) : rdEntry l = none := by
  cases l with
  | nil => rfl
  | cons b r =>
    have hb : ¬ b = 69 := fun e => h (by rw [e]; rfl)
    simp only [rdEntry]
    cases h1 : rdGo 5 [] r with
    | none => rfl
    | some p =>
      obtain ⟨i, c1⟩ := p
      simp only
      cases h2 : rdGo 5 [] (r.drop c1) with
      | none => rfl
      | some q =>
        obtain ⟨t, c2⟩ := q
        simp only
        cases h3 : (r.drop c1).drop c2 with
        | nil => rfl
        | cons k d => simp only; rw [if_neg (fun q => hb q.1)]

theorem rdEntry_one {l : List UInt8} (h1 : rdGo 5 [] (l.drop 1) = none) : rdEntry l = none := by
  cases l with
  | nil => rfl
  | cons b r =>
    simp only [List.drop_one, List.tail_cons] at h1
    simp only [rdEntry, h1]

theorem rdEntry_two {l : List UInt8} {i c1 : Nat} (h1 : rdGo 5 [] (l.drop 1) = some (i, c1)) (h2 : rdGo 5 [] (l.drop (1 + c1)) = none) : rdEntry l = none := by
  cases l with
  | nil => rfl
  | cons b r =>
    rw [← List.drop_drop] at h2
    simp only [List.drop_one, List.tail_cons] at h1 h2
    simp only [rdEntry, h1, h2]

theorem rdEntry_short {l : List UInt8} {i c1 t c2 : Nat} (h1 : rdGo 5 [] (l.drop 1) = some (i, c1)) (h2 : rdGo 5 [] (l.drop (1 + c1)) = some (t, c2)) (h3 : l.drop (1 + c1 + c2) = []) : rdEntry l = none := by
  cases l with
  | nil => rfl
  | cons b r =>
    rw [← List.drop_drop, ← List.drop_drop] at h3
    rw [← List.drop_drop] at h2
    simp only [List.drop_one, List.tail_cons] at h1 h2 h3
    simp only [rdEntry, h1, h2, h3]

theorem rdEntry_all {l : List UInt8} {i c1 t c2 : Nat} {k : UInt8} {d : List UInt8} (h1 : rdGo 5 [] (l.drop 1) = some (i, c1)) (h2 : rdGo 5 [] (l.drop (1 + c1)) = some (t, c2)) (h3 : l.drop (1 + c1 + c2) = k :: d) :
    rdEntry l = if l.head? = some 69 ∧ indexOk i = true ∧ entryOk t k.toNat d = true then some (i, t, k.toNat, d) else none := by
  cases l with
  | nil => simp at h3
  | cons b r =>
    rw [← List.drop_drop, ← List.drop_drop] at h3
    rw [← List.drop_drop] at h2
    simp only [List.drop_one, List.tail_cons] at h1 h2 h3
    simp only [rdEntry, h1, h2, h3]
    simp

/-- What the text of what is read comes to. -/
theorem entryB_all {l : List UInt8} {i c1 t c2 : Nat} {k : UInt8} {d : List UInt8} (h1 : rdGo 5 [] (l.drop 1) = some (i, c1)) (h2 : rdGo 5 [] (l.drop (1 + c1)) = some (t, c2)) (h3 : l.drop (1 + c1 + c2) = k :: d) :
    entryB i t k.toNat d = l ↔ l.head? = some 69 := by
  cases l with
  | nil => simp at h3
  | cons b r =>
    rw [← List.drop_drop, ← List.drop_drop] at h3
    rw [← List.drop_drop] at h2
    simp only [List.drop_one, List.tail_cons] at h1 h2 h3
    rw [parts_of_read h1 h2 h3]
    simp

end Go.Proofs.YthbgklmnmoclhaaDoor.P9
