/-
  Walks and mathematics of StsArg.
-/
import Derived.Test.YtckkfjmjcknjdaaSHItemsArg
import Derived.Test.YtckkfjmjcknjdaaSHInts
import Derived.Test.YtckkfjmjcknjdaaSHBox
import Derived.Test.YtckkfjmjcknjdaaSHRowK
namespace Go.Proofs.Ytckkfjmjcknjdaa
open Go.RowKit K
set_option linter.unusedVariables false

structure StsAt (w : World) (oa : Option Addr) (n cap : Nat) (ss : List (List (Int × Int))) : Prop where
  len : ss.length = n
  room : n ≤ cap
  most : cap ≤ maxLen
  at_ : ∀ (i : Nat) (s : List (Int × Int)), ss[i]? = some s → ∃ b o xa xc, oa = some ⟨b, o, none⟩ ∧ w.cell? ⟨b, o + i, none⟩ = some (.slice xa s.length xc) ∧ ItemsAt w xa s.length xc s

theorem StsAt.below {w w' : World} {oa : Option Addr} {n cap : Nat} {ss : List (List (Int × Int))} (h : StsAt w oa n cap ss) (hb : Below w.heap.size w w') : StsAt w' oa n cap ss :=
  ⟨h.len, h.room, h.most, fun i s hs => by
    obtain ⟨b, o, xa, xc, h1, h2, h3⟩ := h.at_ i s hs
    exact ⟨b, o, xa, xc, h1, (hb.cell (cell_lt h2)).trans h2, h3.below hb⟩⟩

theorem stsAt_nil (w : World) : StsAt w none 0 0 [] := ⟨rfl, Nat.le_refl _, by unfold maxLen; omega, fun i e he => by simp at he⟩

theorem StsAt.get {w : World} {oa : Option Addr} {n cap : Nat} {ss : List (List (Int × Int))} (h : StsAt w oa n cap ss) {P : Program} {t e : TypeId} (ht : P.underlying t = some (.slice e)) (hi : (P.info? e).map (·.size) = some 1) (i : Nat) (hin : i < n) :
    ∃ s b q xa xc, ss[i]? = some s ∧ (∀ wx, (Instr.indexAt t (.slice oa n cap) (.int .i64 (i : Int))).run P wx = .ok (.pointer (some ⟨b, q, none⟩)) wx) ∧ w.cell? ⟨b, q, none⟩ = some (.slice xa s.length xc) ∧ ItemsAt w xa s.length xc s := by
  obtain ⟨s, hs⟩ : ∃ s, ss[i]? = some s := ⟨_, List.getElem?_eq_getElem (by rw [h.len]; exact hin)⟩
  obtain ⟨b, o, xa, xc, rfl, h2, h3⟩ := h.at_ i s hs
  refine ⟨s, b, o + i, xa, xc, hs, fun wx => ?_, h2, h3⟩
  have := run_indexAt_slice wx t e 1 ht hi b o n cap i hin
  rwa [Nat.mul_one] at this

end Go.Proofs.Ytckkfjmjcknjdaa
