/-
  Walks and mathematics of Walk5i.
-/
import Derived.Test.YtmllcomppjkhhaaDoorQdWalk1b
import Derived.Test.YtmllcomppjkhhaaDoorQdWalk5g
import Derived.Test.YtmllcomppjkhhaaDoorQdPlain1
namespace Go.Proofs.YtmllcomppjkhhaaDoor
open Go.RowKit P1 P9 K
set_option linter.unusedVariables false
set_option linter.unusedSimpArgs false

def reVal : Option (Nat × Nat × Nat × List UInt8) → Value
  | none => .tuple #[.int .i64 0, .agg #[.int .i64 0, .int .i64 0, .string ⟨#[]⟩], .bool false]
  | some (i, t, k, d) => .tuple #[.int .i64 (i : Int), .agg #[.int .i64 (t : Int), .int .i64 (k : Int), .string ⟨d.toArray⟩], .bool true]

theorem l05Take_one (g : Nat) (s : ByteArray) (hs : s.size ≤ 1048576) (a : Nat) (b : Bool) (w : World) (hc : RdC w g s a b) :
    Calls Tryd.prog 39 #[.pointer (some ⟨g, 0, none⟩), .int .i64 1] w fun e w' =>
      e = .returned (.string (takeV s a b 1).1) ∧ RdC w' g s (takeV s a b 1).2.1 (takeV s a b 1).2.2 ∧ w.grownBy w' (some g) :=
  l05Take_any g s hs a b 1 (by omega) w hc

theorem keep_blk {w w' : World} {C B : Nat} {x : Option Obj} (h : w.grownBy w' (some C)) (hb : w.heap[B]? = x) (hlt : B < w.heap.size) (hne : C ≠ B) : w'.heap[B]? = x :=
  (h.block B hlt (fun e => hne (Option.some.inj e).symm)).trans hb

theorem reader_bad {s : ByteArray} {x1 : ByteArray} {a1 : Nat} {b1 : Bool} {i a2 : Nat} {b2 : Bool} {t a3 : Nat} {b3 : Bool} {x4 : ByteArray} {a4 : Nat}
    (h1 : takeV s 0 false 1 = (x1, a1, b1)) (h2 : varV s a1 b1 = (i, a2, b2)) (h3 : varV s a2 b2 = (t, a3, b3)) (h4 : takeV s a3 b3 1 = (x4, a4, true)) : rdEntry (bl s) = none := by
  have hlen : (bl s).length = s.size := bl_length s
  by_cases hs0 : 1 ≤ s.size
  · have e1 : takeV s 0 false 1 = (s.extract 0 1, 1, false) := by simp [takeV, hs0]
    rw [e1] at h1
    cases h1
    cases hr1 : rdGo 5 [] ((bl s).drop 1) with
    | none => exact rdEntry_one hr1
    | some p =>
      obtain ⟨i', c1⟩ := p
      have e2 : varV s 1 false = (i', 1 + c1, false) := by unfold varV; rw [hr1]
      rw [e2] at h2
      cases h2
      cases hr2 : rdGo 5 [] ((bl s).drop (1 + c1)) with
      | none => exact rdEntry_two hr1 hr2
      | some q =>
        obtain ⟨t', c2⟩ := q
        have e3 : varV s (1 + c1) false = (t', 1 + c1 + c2, false) := by unfold varV; rw [hr2]
        rw [e3] at h3
        cases h3
        refine rdEntry_short hr1 hr2 (List.drop_eq_nil_of_le ?_)
        unfold takeV at h4
        split at h4
        · cases h4
        · rename_i hn
          simp at hn
          omega
  · have : bl s = [] := List.eq_nil_of_length_eq_zero (by omega)
    rw [this]
    rfl

theorem reader_good {s : ByteArray} {x1 : ByteArray} {a1 : Nat} {b1 : Bool} {i a2 : Nat} {b2 : Bool} {t a3 : Nat} {b3 : Bool} {x4 : ByteArray} {a4 : Nat}
    (h1 : takeV s 0 false 1 = (x1, a1, b1)) (h2 : varV s a1 b1 = (i, a2, b2)) (h3 : varV s a2 b2 = (t, a3, b3)) (h4 : takeV s a3 b3 1 = (x4, a4, false)) :
    ∃ (k : UInt8) (d : List UInt8) (c1 c2 : Nat), rdGo 5 [] ((bl s).drop 1) = some (i, c1) ∧ rdGo 5 [] ((bl s).drop (1 + c1)) = some (t, c2) ∧ (bl s).drop (1 + c1 + c2) = k :: d ∧ x4 = ⟨#[k]⟩ ∧ a4 ≤ s.size ∧ s.extract a4 s.size = ⟨d.toArray⟩ ∧ i ≤ 1000000000 ∧ t ≤ 1000000000 := by
  have hlen : (bl s).length = s.size := bl_length s
  have hb3 : b3 = false := by
    unfold takeV at h4
    split at h4
    · rename_i h; exact h.1
    · cases h4
  subst hb3
  have hb2 : b2 = false := by
    cases b2 with
    | false => rfl
    | true => unfold varV at h3; cases h3
  subst hb2
  have hb1 : b1 = false := by
    cases b1 with
    | false => rfl
    | true => unfold varV at h2; cases h2
  subst hb1
  have ha1 : a1 = 1 := by
    unfold takeV at h1
    split at h1
    · cases h1; rfl
    · cases h1
  subst ha1
  cases hr1 : rdGo 5 [] ((bl s).drop 1) with
  | none => unfold varV at h2; rw [hr1] at h2; cases h2
  | some p =>
    obtain ⟨i', c1⟩ := p
    unfold varV at h2
    rw [hr1] at h2
    cases h2
    cases hr2 : rdGo 5 [] ((bl s).drop (1 + c1)) with
    | none => unfold varV at h3; rw [hr2] at h3; cases h3
    | some q =>
      obtain ⟨t', c2⟩ := q
      unfold varV at h3
      rw [hr2] at h3
      cases h3
      unfold takeV at h4
      split at h4
      · rename_i hh
        cases h4
        have hlt : 1 + c1 + c2 < s.size := by omega
        refine ⟨s[1 + c1 + c2], (bl s).drop (1 + c1 + c2 + 1), c1, c2, rfl, hr2, bl_drop s _ hlt, ?_, hh.2, ?_, (rdGo_some 5 [] _ _ _ hr1).1, (rdGo_some 5 [] _ _ _ hr2).1⟩
        · apply ByteArray.ext
          rw [ByteArray.data_extract]
          apply Array.ext'
          rw [Array.toList_extract, List.extract_eq_take_drop]
          show List.take (1 + c1 + c2 + 1 - (1 + c1 + c2)) ((bl s).drop (1 + c1 + c2)) = _
          rw [bl_drop s _ hlt, show 1 + c1 + c2 + 1 - (1 + c1 + c2) = 1 by omega]
          rfl
        · apply ByteArray.ext
          rw [ByteArray.data_extract]
          apply Array.ext'
          rw [Array.toList_extract, List.extract_eq_take_drop]
          show List.take (s.size - (1 + c1 + c2 + 1)) ((bl s).drop (1 + c1 + c2 + 1)) = _
          rw [List.take_of_length_le (by rw [List.length_drop, bl_length]; exact Nat.le_refl _)]
      · cases h4

end Go.Proofs.YtmllcomppjkhhaaDoor
