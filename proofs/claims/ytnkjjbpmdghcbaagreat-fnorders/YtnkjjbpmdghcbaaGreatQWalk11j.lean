/-
  Walks and mathematics of Walk11j.
-/
import Derived.Test.YtnkjjbpmdghcbaaGreatQWalk11i
import Derived.Test.YtnkjjbpmdghcbaaGreatQWalk11d
import Derived.Test.YtnkjjbpmdghcbaaGreatQWalk10p
namespace Go.Proofs.YtnkjjbpmdghcbaaGreat.P11
end Go.Proofs.YtnkjjbpmdghcbaaGreat.P11
namespace Go.Proofs.YtnkjjbpmdghcbaaGreat.P3
end Go.Proofs.YtnkjjbpmdghcbaaGreat.P3
namespace Go.Proofs.YtnkjjbpmdghcbaaGreat
open Go.RowKit P1 P3 P5 P9 P11 P12 P14 P15 K
set_option linter.unusedVariables false
set_option linter.unusedSimpArgs false

theorem keyE_eq (e : EvV) : keyE e = if (e.kind == 1) = true then 1 else if (e.kind == 3) = true then 2 else if (e.kind == 4) = true then 3 else if (e.kind == 2) = true then (if inR e.user 1 5 then 10 + e.user else 0) else 0 := by
 unfold keyE
 simp only [beq_iff_eq]
 by_cases h1 : e.kind = 1
 ·simp [h1]
 ·by_cases h3 : e.kind = 3
  ·simp [h3]
  ·by_cases h4 : e.kind = 4
   ·simp [h4]
   ·by_cases h2 : e.kind = 2
    ·simp [h2]
    ·simp [h1, h2, h3, h4]

set_option maxHeartbeats 4000000 in
theorem specKeyOf_any (e : EvV) (xl xp : Value) (w : World) :
  Calls Tryz.prog 38 #[evv e xl xp] w fun r w' => r = .returned (.int .i64 (keyE e)) ∧ Below w.heap.size w w' := by
 have HB0 := hide ((Below.refl w.heap.size w).alloc (Nat.le_refl _) (.cells (evcells e.id e.kind e.sender e.user e.member e.depth xl xp e.text) 45))
 have HI := hide (fun w => l01InR_any e.user 1 5 w)
 rw [keyE_eq]
 cases k1 : (e.kind == 1)
 ·cases k3 : (e.kind == 3)
  ·cases k4 : (e.kind == 4)
   ·cases k2 : (e.kind == 2)
    ·go_enter Tryz.func38, Tryz.ntmps38
     go_wp2_with fail
     go_ret
     exact ⟨rfl, HB0.out⟩
    ·cases hin : inR e.user 1 5
     ·rw [hin] at HI
      go_enter Tryz.func38, Tryz.ntmps38
      go_wp2_with (go_at_call 95; refine (HI.out _).mono ?_; rintro r w' ⟨rfl, rfl⟩)
      go_ret
      exact ⟨rfl, HB0.out⟩
     ·obtain ⟨hu1, hu2⟩ := inR_iff.1 hin
      rw [hin] at HI
      go_enter Tryz.func38, Tryz.ntmps38
      go_wp2_with (go_at_call 95; refine (HI.out _).mono ?_; rintro r w' ⟨rfl, rfl⟩)
      go_ret
      exact ⟨rfl, HB0.out⟩
   ·go_enter Tryz.func38, Tryz.ntmps38
    go_wp2_with fail
    go_ret
    exact ⟨rfl, HB0.out⟩
  ·go_enter Tryz.func38, Tryz.ntmps38
   go_wp2_with fail
   go_ret
   exact ⟨rfl, HB0.out⟩
 ·go_enter Tryz.func38, Tryz.ntmps38
  go_wp2_with fail
  go_ret
  exact ⟨rfl, HB0.out⟩

end Go.Proofs.YtnkjjbpmdghcbaaGreat
