/-
  A listed table, kept where only new memory is written.
  The table of halves as the rows list it.
  Walks of chapter 4: Frame, of the specification and of the program.
-/
import Derived.Test.YthbgklmnmoclhaaDoorBase
import Derived.WalkSmall
import Derived.Lib.LaidTab
import Derived.Lib.SmallJoins
import Derived.Lib.AppendIntMem
import Derived.LaidSub
import Derived.Stop.Joined
import Derived.LaidMore
import Derived.Test.YthbgklmnmoclhaaDoorWalk2b
import Derived.Test.YthbgklmnmoclhaaDoorWalk2c
import Derived.Test.YthbgklmnmoclhaaDoorWalk1a
import Derived.Test.YthbgklmnmoclhaaDoorPlain6
namespace Go.Proofs.YthbgklmnmoclhaaDoor
open Go.RowKit P1 K
set_option linter.unusedVariables false

/-- What a listed variable holds stays where only new memory is written. -/
theorem tab_below {w w' : World} {name : String} {k : IntKind} {zs : List Int} (h : Lib.TabIs Tryd.prog w name k zs) (hb : Below w.heap.size w w') : Lib.TabIs Tryd.prog w' name k zs := by
  unfold Lib.TabIs at h ⊢
  cases hg : Tryd.prog.globalNamed name with
  | none => unfold World.var? at h; rw [hg] at h; cases h
  | some g =>
    refine var?_below hb hg ?_ h
    unfold World.var? at h
    rw [hg] at h
    simp only [Option.bind_some] at h
    rcases Nat.lt_or_ge g w.heap.size with hlt | hge
    · exact hlt
    · rw [Array.getElem?_eq_none hge] at h; cases h

end Go.Proofs.YthbgklmnmoclhaaDoor

namespace Go.Proofs.YthbgklmnmoclhaaDoor.K
/-- As many data as names. -/
theorem trodVars_len {H : Type} {enc : TypeId × Value → H} {P : Program} {w : World} {spare : Nat → Bool} : ∀ {ns : List String} {gs : List (DataW H)} {ps : List MemPlace}, DataW.TrodVars enc P w spare ns gs ps → gs.length = ns.length
  | [], [], _, _ => rfl
  | [], _ :: _, _, h => h.elim
  | _ :: _, [], _, h => h.elim
  | _ :: _, _ :: _, _, h => by
    obtain ⟨_, _, _, _, _, _, _, _, _, _, hs, _⟩ := h
    simp [trodVars_len hs]
end Go.Proofs.YthbgklmnmoclhaaDoor.K

namespace Go.Proofs.YthbgklmnmoclhaaDoor
open Go.RowKit P1 K P3
set_option linter.unusedVariables false

theorem sums_of_laid {row : List (String × DataW Unit)} {w : World} (e : row.filter (fun x => x.1 == "loop.example/g00127/impl.sumHalves") = [("loop.example/g00127/impl.sumHalves", Lib.tabData .u32 sumTab)]) (h : laidMetH Tryd.prog row w) : SumTabIs w := by
  have h1 := laidMetH.filter (fun x => x.1 == "loop.example/g00127/impl.sumHalves") h
  rw [e, MakeChecks.laidMetH_plain _ _ _ (by kernel_rfl)] at h1
  exact Lib.tabIs_of_head (rest := []) (g := 2) (by kernel_rfl) (t := 182) (by kernel_rfl) Tryd.underlying182 Tryd.underlying73 (by kernel_rfl) (by kernel_rfl) h1

end Go.Proofs.YthbgklmnmoclhaaDoor

namespace Go.Proofs.YthbgklmnmoclhaaDoor
open Go.RowKit P1 K P3
set_option linter.unusedVariables false

/-- The results of Frame as values. -/
def frameVal (l : List UInt8) : Value := if 1 ≤ l.length ∧ l.length ≤ 9000 then .tuple #[.string ⟨(frameL l).toArray⟩, .bool true] else .tuple #[.string ⟨#[]⟩, .bool false]

theorem frameVal_yes {l : List UInt8} (h1 : 1 ≤ l.length) (h2 : l.length ≤ 9000) : frameVal l = .tuple #[.string ⟨(frameL l).toArray⟩, .bool true] := if_pos ⟨h1, h2⟩
theorem frameVal_no {l : List UInt8} (h : l.length < 1 ∨ 9000 < l.length) : frameVal l = .tuple #[.string ⟨#[]⟩, .bool false] := if_neg (by omega)

theorem cat_frame (s : ByteArray) (n m : Nat) (hn : n = s.size) (hm : sumOfL (bl s) = m) : (⟨(varB n).toArray⟩ : ByteArray) ++ ⟨(be32 m).toArray⟩ ++ s = ⟨(frameL (bl s)).toArray⟩ := by
  subst hn; subst hm
  apply ByteArray.ext
  simp [frameL]

set_option maxHeartbeats 1000000 in
theorem specFrame_any (s : ByteArray) (hs : s.size ≤ 1048576) (w : World) :
    Calls Tryd.prog 23 #[.string s] w fun e w' => e = .returned (frameVal (bl s)) ∧ Below w.heap.size w w' := by
  by_cases hl : s.size < 1 ∨ 9000 < s.size
  · have R := hide (frameVal_no (l := bl s) (by rw [bl_length]; exact hl))
    go_enter Tryd.func23, Tryd.ntmps23
    go_wp2_with (go_at_call 17; refine (l01In_no _ _ _ (by omega) _).mono ?_; rintro e w1 ⟨rfl, rfl⟩)
    go_ret2
    exact ⟨by rw [R.out]; rfl, Below.refl _ _⟩
  · have R := hide (frameVal_yes (l := bl s) (by rw [bl_length]; omega) (by rw [bl_length]; omega))
    have hlt := sumOfL_lt (bl s)
    obtain ⟨m, hm⟩ : ∃ m, sumOfL (bl s) = m := ⟨_, rfl⟩
    have C := hide (cat_frame s s.size m rfl hm)
    have hsum := hide hm
    rw [hm] at hlt
    clear hm
    have hl0 : 1 ≤ s.size := by omega
    have hl1 : s.size ≤ 9000 := by omega
    have h4 : (⟨(be32 m).toArray⟩ : ByteArray).size = 4 := rfl
    have hv := varB_length s.size
    have h5 : (be32 m).length = 4 := rfl
    clear hl
    go_enter Tryd.func23, Tryd.ntmps23
    go_wp2_with (first
      | (go_at_call 17; refine (l01In_yes _ _ _ (by omega) (by omega) _).mono ?_; rintro e w1 ⟨rfl, rfl⟩)
      | (go_at_call 24; refine (l01Var_any s.size (by omega) _).mono ?_; rintro e w1 ⟨rfl, hb1⟩)
      | (go_at_call 46; refine (specSumOf_any s (by omega) _).mono ?_; rw [hsum.out]; rintro e w2 ⟨rfl, rfl⟩)
      | (go_at_call 45; refine (specFour_any m hlt _).mono ?_; rintro e w3 ⟨rfl, hb3⟩))
    go_ret2
    exact ⟨by rw [R.out, ← C.out]; rfl, hb1.trans (hb3.mono hb1.size)⟩

set_option maxHeartbeats 1000000 in
theorem implFrame_any (s : ByteArray) (hs : s.size ≤ 1048576) (w : World) (htab : SumTabIs w) :
    Calls Tryd.prog 50 #[.string s] w fun e w' => e = .returned (frameVal (bl s)) ∧ Below w.heap.size w w' := by
  have HT := hide htab
  clear htab
  by_cases hl : s.size < 1
  · have R := hide (frameVal_no (l := bl s) (by rw [bl_length]; exact Or.inl hl))
    have g1 : decide ((s.size : Int) < 1) = true := by simp; omega
    go_enter Tryd.func50, Tryd.ntmps50
    go_wp2_with fail
    go_ret2
    exact ⟨by rw [R.out]; rfl, Below.refl _ _⟩
  by_cases hl2 : 9000 < s.size
  · have R := hide (frameVal_no (l := bl s) (by rw [bl_length]; exact Or.inr hl2))
    have g1 : decide ((s.size : Int) < 1) = false := by simp; omega
    have g2 : decide ((9000 : Int) < (s.size : Int)) = true := by simp; omega
    go_enter Tryd.func50, Tryd.ntmps50
    go_wp2_with fail
    go_ret2
    exact ⟨by rw [R.out]; rfl, Below.refl _ _⟩
  · have R := hide (frameVal_yes (l := bl s) (by rw [bl_length]; omega) (by rw [bl_length]; omega))
    have g1 : decide ((s.size : Int) < 1) = false := by simp; omega
    have g2 : decide ((9000 : Int) < (s.size : Int)) = false := by simp; omega
    have hlt := sumOfL_lt (bl s)
    obtain ⟨m, hm⟩ : ∃ m, sumOfL (bl s) = m := ⟨_, rfl⟩
    have C := hide (cat_frame s s.size m rfl hm)
    have hsum := hide hm
    rw [hm] at hlt
    clear hm
    have hl0 : 1 ≤ s.size := by omega
    have hl1 : s.size ≤ 9000 := by omega
    have h4 : (⟨(be32 m).toArray⟩ : ByteArray).size = 4 := rfl
    have hv := varB_length s.size
    have h5 : (be32 m).length = 4 := rfl
    clear hl hl2
    go_enter Tryd.func50, Tryd.ntmps50
    go_wp2_with (first
      | (go_at_call 73; refine (implVarText_yes s.size (by omega) _).mono ?_; rintro e w1 ⟨rfl, hb1⟩)
      | (go_at_call 74; refine (implSumOf_any s (by omega) _ (tab_below HT.out hb1)).mono ?_; rw [hsum.out]; rintro e w2 ⟨rfl, rfl⟩)
      | (go_at_call 75; refine (implBytes_any m hlt _).mono ?_; rintro e w3 ⟨rfl, hb3⟩; have hconv := run_four 111 m hlt w3))
    go_ret2
    have hb := hb1.trans (hb3.mono hb1.size)
    exact ⟨by rw [R.out, ← C.out]; rfl, hb.alloc hb.size _⟩

end Go.Proofs.YthbgklmnmoclhaaDoor
