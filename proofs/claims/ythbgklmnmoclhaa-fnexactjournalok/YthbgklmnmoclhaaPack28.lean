/-
  A listed table, kept where only new memory is written.
  The table of halves as the rows list it.
  Walks of chapter 4: Frame, of the specification and of the program.
-/
import Derived.Test.YthbgklmnmoclhaaPack11
import Derived.WalkSmall
import Derived.Lib.LaidTab
import Derived.Lib.SmallJoins
import Derived.Lib.AppendIntMem
import Derived.LaidSub
import Derived.Stop.Joined
import Derived.LaidMore
import Derived.Test.YthbgklmnmoclhaaPack26
import Derived.Test.YthbgklmnmoclhaaPlain6
namespace Go.Proofs.Ythbgklmnmoclhaa
open Go.RowKit P1 K
set_option linter.unusedVariables false

/-- What a listed variable holds stays where only new memory is written. -/
theorem tab_below {w w' : World} {name : String} {k : IntKind} {zs : List Int} (h : Lib.TabIs Try.prog w name k zs) (hb : Below w.heap.size w w') : Lib.TabIs Try.prog w' name k zs := by
  unfold Lib.TabIs at h ⊢
  cases hg : Try.prog.globalNamed name with
  | none => unfold World.var? at h; rw [hg] at h; cases h
  | some g =>
    refine var?_below hb hg ?_ h
    unfold World.var? at h
    rw [hg] at h
    simp only [Option.bind_some] at h
    rcases Nat.lt_or_ge g w.heap.size with hlt | hge
    · exact hlt
    · rw [Array.getElem?_eq_none hge] at h; cases h

end Go.Proofs.Ythbgklmnmoclhaa

namespace Go.Proofs.Ythbgklmnmoclhaa.K
/-- As many data as names. -/
theorem trodVars_len {H : Type} {enc : TypeId × Value → H} {P : Program} {w : World} {spare : Nat → Bool} : ∀ {ns : List String} {gs : List (DataW H)} {ps : List MemPlace}, DataW.TrodVars enc P w spare ns gs ps → gs.length = ns.length
  | [], [], _, _ => rfl
  | [], _ :: _, _, h => h.elim
  | _ :: _, [], _, h => h.elim
  | _ :: _, _ :: _, _, h => by
    obtain ⟨_, _, _, _, _, _, _, _, _, _, hs, _⟩ := h
    simp [trodVars_len hs]
end Go.Proofs.Ythbgklmnmoclhaa.K

namespace Go.Proofs.Ythbgklmnmoclhaa
open Go.RowKit P1 K P3
set_option linter.unusedVariables false

end Go.Proofs.Ythbgklmnmoclhaa

namespace Go.Proofs.Ythbgklmnmoclhaa
open Go.RowKit P1 K P3
set_option linter.unusedVariables false

/-- The results of Frame as values. -/
def frameVal (l : List UInt8) : Value := if 1 ≤ l.length ∧ l.length ≤ 9000 then .tuple #[.string ⟨(frameL l).toArray⟩, .bool true] else .tuple #[.string ⟨#[]⟩, .bool false]

theorem frameVal_yes {l : List UInt8} (h1 : 1 ≤ l.length) (h2 : l.length ≤ 9000) : frameVal l = .tuple #[.string ⟨(frameL l).toArray⟩, .bool true] := if_pos ⟨h1, h2⟩
theorem frameVal_no {l : List UInt8} (h : l.length < 1 ∨ 9000 < l.length) : frameVal l = .tuple #[.string ⟨#[]⟩, .bool false] := if_neg (by omega)

theorem cat_frame (s : ByteArray) (n m : Nat) (hn : n = s.size) (hm : sumOfL (bl s) = m) : (⟨(varB n).toArray⟩ : ByteArray) ++ ⟨(be32 m).toArray⟩ ++ s = ⟨(frameL (bl s)).toArray⟩ := by
  subst hn; subst hm
  apply ByteArray.ext
  simp [frameL]

end Go.Proofs.Ythbgklmnmoclhaa
