/-
  Walks and mathematics of Res1.
-/
import Derived.Test.YthieilmjbefamaaQPlain2
namespace Go.Proofs.Ythieilmjbefamaa.P11
end Go.Proofs.Ythieilmjbefamaa.P11
namespace Go.Proofs.Ythieilmjbefamaa.P3
end Go.Proofs.Ythieilmjbefamaa.P3
namespace Go.Proofs.Ythieilmjbefamaa.P9
end Go.Proofs.Ythieilmjbefamaa.P9
namespace Go.Proofs.Ythieilmjbefamaa.P15
open P1 P3 P9 P11 P12 P14
set_option linter.unusedVariables false

structure BehOk (es : List EvV) (out : List Int) : Prop where
  nd : out.Nodup
  there : ∀ z ∈ out, z ∈ es.map (·.id)

theorem nodup_len : ∀ {l m : List Int}, l.Nodup → (∀ z ∈ l, z ∈ m) → l.length ≤ m.length
  | [], m, _, _ => by simp
  | a :: r, m, h, hs => by
    rw [List.nodup_cons] at h
    have ha := hs a (by simp)
    have h1 := nodup_len (l := r) (m := m.erase a) h.2 (fun z hz => by
      have hne : z ≠ a := fun e => h.1 (by rw [← e]; exact hz)
      exact (List.mem_erase_of_ne hne).2 (hs z (List.mem_cons_of_mem _ hz)))
    rw [List.length_erase_of_mem ha] at h1
    have := List.length_pos_of_mem ha
    simp only [List.length_cons]
    omega

theorem BehOk.len {es : List EvV} {out : List Int} (h : BehOk es out) : out.length ≤ es.length := by
  have := nodup_len h.nd h.there
  simpa using this

end Go.Proofs.Ythieilmjbefamaa.P15
