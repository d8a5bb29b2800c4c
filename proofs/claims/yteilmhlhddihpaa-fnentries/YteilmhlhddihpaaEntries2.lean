/-
  What FnEntries compares: an entry's text, read back.
-/
import Derived.Test.YteilmhlhddihpaaEntries1
import Derived.Test.YteilmhlhddihpaaWalk5m
namespace Go.Proofs.Yteilmhlhddihpaa
open Go.RowKit P1 P9 K
set_option linter.unusedVariables false
set_option linter.unusedSimpArgs false

/-- The text of an entry, and whether there is one: the same in both. -/
theorem entry_back (i t k : Int) (z : ByteArray) (hz : z.size ≤ 200) : ∃ (s : ByteArray) (ok : Bool), s.size ≤ 1048576 ∧ etVal i ⟨t, k, z⟩ = .tuple #[.string s, .bool ok] ∧
    ∃ (i' t' k' : Int) (d : ByteArray) (b : Bool), reVal (rdEntry (bl s)) = .tuple #[.int .i64 i', .agg #[.int .i64 t', .int .i64 k', .string d], .bool b] ∧ (ok = true → i' = i ∧ t' = t ∧ k' = k ∧ d = z ∧ b = true) := by
  cases hok : (EntV.ok ⟨t, k, z⟩ && indexOk i) with
  | false =>
    refine ⟨_, _, by decide, etVal_no hok, ?_⟩
    cases rdEntry (bl ⟨#[]⟩) with
    | none => exact ⟨_, _, _, _, _, rfl, fun h => by cases h⟩
    | some p => obtain ⟨i, t, k, d⟩ := p; exact ⟨_, _, _, _, _, rfl, fun h => by cases h⟩
  | true =>
    have h2 := Bool.and_eq_true_iff.1 hok
    have hi := h2.2
    have he : entryOk t k (bl z) = true := h2.1
    have hi' := hi
    simp only [indexOk, Bool.and_eq_true, decide_eq_true_eq] at hi'
    have he' := Bool.and_eq_true_iff.1 he
    have ht := he'.2
    simp only [termOk, Bool.and_eq_true, decide_eq_true_eq] at ht
    have hk : 1 ≤ k ∧ k ≤ 3 := by rcases contOk_kind he'.1 with h | h | h <;> omega
    have ei : ((i.toNat : Nat) : Int) = i := Int.toNat_of_nonneg (by omega)
    have et : ((t.toNat : Nat) : Int) = t := Int.toNat_of_nonneg (by omega)
    have ek : ((k.toNat : Nat) : Int) = k := Int.toNat_of_nonneg (by omega)
    have hrd := rdEntry_text (i := i.toNat) (t := t.toNat) (k := k.toNat) (l := bl z) (by rw [ei]; exact hi) (by rw [et, ek]; exact he)
    refine ⟨_, _, ?_, etVal_yes hok, i, t, k, z, true, ?_, fun _ => ⟨rfl, rfl, rfl, rfl, rfl⟩⟩
    · have h1 := varB_length i.toNat
      have h3 := varB_length t.toNat
      have h4 := bl_length z
      show (entryB i.toNat t.toNat k.toNat (bl z)).length ≤ 1048576
      simp only [entryB, List.length_cons, List.length_append]
      omega
    · show reVal (rdEntry (entryB i.toNat t.toNat k.toNat (bl z))) = _
      rw [hrd]
      simp only [reVal, ei, et, ek]

/-- The text of a configuration, read back. -/
theorem conf_back (l : List Int) (hl : l.length ≤ 5) : ∃ (s : ByteArray), s.size ≤ 1048576 ∧ ctVal l = .tuple #[.string s, .bool (confOk l)] ∧ rdConf (bl s) = if confOk l = true then (l, true) else ([], false) := by
  cases hok : confOk l with
  | true =>
    have hz : confZ (confB l) = l := confZ_confB (confOk_mem hok)
    refine ⟨_, ?_, ctVal_yes hok, ?_⟩
    · show (confB l).length ≤ 1048576
      rw [confB_length]
      omega
    · show rdConf (confB l) = _
      rw [rdConf_yes (by rw [hz]; exact hok), hz]
      rfl
  | false =>
    refine ⟨_, by decide, ctVal_no hok, ?_⟩
    exact rdConf_no (by rfl)

end Go.Proofs.Yteilmhlhddihpaa
