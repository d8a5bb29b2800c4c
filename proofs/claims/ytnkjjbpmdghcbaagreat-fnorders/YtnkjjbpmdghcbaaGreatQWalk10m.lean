/-
  Walks and mathematics of Walk10m.
-/
import Derived.Test.YtnkjjbpmdghcbaaGreatQWalk10c
import Derived.Test.YtnkjjbpmdghcbaaGreatQWalk10f
namespace Go.Proofs.YtnkjjbpmdghcbaaGreat.P11
end Go.Proofs.YtnkjjbpmdghcbaaGreat.P11
namespace Go.Proofs.YtnkjjbpmdghcbaaGreat.P3
end Go.Proofs.YtnkjjbpmdghcbaaGreat.P3
namespace Go.Proofs.YtnkjjbpmdghcbaaGreat
open Go.RowKit P1 P3 P5 P9 P11 P12 P14 K
set_option linter.unusedVariables false
set_option linter.unusedSimpArgs false

set_option maxHeartbeats 2000000 in
theorem specMemberOf_any (oa : Option Addr) (n cap : Nat) (es : List EvV) (ob : Option Addr) (m cb : Nat) (s : List (Int × Int)) (u : Int) (w : World) (hat : EvsAt w oa n cap es) (hbt : ItemsAt w ob m cb s) :
  Calls Tryz.prog 39 #[.slice oa n cap, .slice ob m cb, .int .i64 u] w fun e w' => e = .returned (.int .i64 (memOf es s u)) ∧ Below w.heap.size w w' := by
 have HA := hide (specAt_any ob m cb s (10 + u) w hbt)
 have HF := hide (specFind_any oa n cap es (stAt s (10 + u)) w hat)
 have HI := hide (fun w => l01InR_any u 1 5 w)
 clear hat hbt
 unfold memOf
 cases hin : inR u 1 5 with
 | false =>
  rw [hin] at HI
  clear HA HF
  go_enter Tryz.func39, Tryz.ntmps39
  go_wp2_with (go_at_call 95; refine (HI.out _).mono ?_; rintro e w' ⟨rfl, rfl⟩)
  go_ret
  exact ⟨rfl, Below.refl _ _⟩
 | true =>
  obtain ⟨hu1, hu2⟩ := inR_iff.1 hin
  rw [hin] at HI
  simp only [if_true]
  cases hf : evFind es (stAt s (10 + u)) with
  | none =>
   rw [evKn_none hf] at HF
   generalize stAt s (10 + u) = id at HA HF
   clear hf hin
   go_enter Tryz.func39, Tryz.ntmps39
   go_wp2_with (first
    | (go_at_call 95; refine (HI.out _).mono ?_; rintro e' w' ⟨rfl, rfl⟩)
    | (go_at_call 55; refine HA.out.mono ?_; rintro e' w' ⟨rfl, rfl⟩)
    | (go_at_call 56; refine HF.out.mono ?_; rintro e' w1 ⟨xa, xc, ya, yc, rfl, hx1, hy1, hb1⟩))
   go_ret
   exact ⟨rfl, hb1.trans (((Below.refl w1.heap.size w1).alloc (Nat.le_refl _) _).mono hb1.size)⟩
  | some e =>
   rw [evKn_some hf] at HF
   generalize stAt s (10 + u) = id at HA HF
   clear hf hin
   simp only
   by_cases h1 : e.kind = 2
   ·have g1 : (e.kind != 2) = false := by simp [h1]
    by_cases h2 : e.user = u
    ·have g2 : (e.user != u) = false := by simp [h2]
     rw [if_pos ⟨h1, h2⟩]
     clear h1 h2
     go_enter Tryz.func39, Tryz.ntmps39
     go_wp2_with (first
      | (go_at_call 95; refine (HI.out _).mono ?_; rintro e' w' ⟨rfl, rfl⟩)
      | (go_at_call 55; refine HA.out.mono ?_; rintro e' w' ⟨rfl, rfl⟩)
      | (go_at_call 56; refine HF.out.mono ?_; rintro e' w1 ⟨xa, xc, ya, yc, rfl, hx1, hy1, hb1⟩))
     go_ret
     exact ⟨rfl, hb1.trans (((Below.refl w1.heap.size w1).alloc (Nat.le_refl _) _).mono hb1.size)⟩
    ·have g2 : (e.user != u) = true := by simp [h2]
     rw [if_neg (fun h => h2 h.2)]
     clear h1 h2
     go_enter Tryz.func39, Tryz.ntmps39
     go_wp2_with (first
      | (go_at_call 95; refine (HI.out _).mono ?_; rintro e' w' ⟨rfl, rfl⟩)
      | (go_at_call 55; refine HA.out.mono ?_; rintro e' w' ⟨rfl, rfl⟩)
      | (go_at_call 56; refine HF.out.mono ?_; rintro e' w1 ⟨xa, xc, ya, yc, rfl, hx1, hy1, hb1⟩))
     go_ret
     exact ⟨rfl, hb1.trans (((Below.refl w1.heap.size w1).alloc (Nat.le_refl _) _).mono hb1.size)⟩
   ·have g1 : (e.kind != 2) = true := by simp [h1]
    rw [if_neg (fun h => h1 h.1)]
    clear h1
    go_enter Tryz.func39, Tryz.ntmps39
    go_wp2_with (first
     | (go_at_call 95; refine (HI.out _).mono ?_; rintro e' w' ⟨rfl, rfl⟩)
     | (go_at_call 55; refine HA.out.mono ?_; rintro e' w' ⟨rfl, rfl⟩)
     | (go_at_call 56; refine HF.out.mono ?_; rintro e' w1 ⟨xa, xc, ya, yc, rfl, hx1, hy1, hb1⟩))
    go_ret
    exact ⟨rfl, hb1.trans (((Below.refl w1.heap.size w1).alloc (Nat.le_refl _) _).mono hb1.size)⟩

theorem below_var {w w1 : World} (h : Below w.heap.size w w1) (o : Obj) : Below w.heap.size w (w1.alloc o) := h.trans (((Below.refl w1.heap.size w1).alloc (Nat.le_refl _) o).mono h.size)

def madeOf (es : List EvV) (s : List (Int × Int)) (u : Int) : Int :=
 match evFind es (stAt s 1) with
 | none => 0
 | some c => if c.kind = 1 ∧ c.sender = u then 100 else 0

theorem levOf_eq (es : List EvV) (s : List (Int × Int)) (u : Int) : levOf es s u = if inR u 1 5 then (match evFind es (stAt s 2) with | none => madeOf es s u | some p => if p.kind = 3 ∧ p.levels.length = 5 then p.levels.getD (u.toNat - 1) 0 else madeOf es s u) else 0 := rfl

set_option maxHeartbeats 8000000 in
theorem specLevelOf_any (oa : Option Addr) (n cap : Nat) (es : List EvV) (ob : Option Addr) (m cb : Nat) (s : List (Int × Int)) (u : Int) (w : World) (hat : EvsAt w oa n cap es) (hbt : ItemsAt w ob m cb s) :
  Calls Tryz.prog 115 #[.slice oa n cap, .slice ob m cb, .int .i64 u] w fun e w' => e = .returned (.int .i64 (levOf es s u)) ∧ Below w.heap.size w w' := by
 have HA2 := hide (specAt_any ob m cb s 2 w hbt)
 have HF2 := hide (specFind_any oa n cap es (stAt s 2) w hat)
 have HA1 := hide (fun w hbt => specAt_any ob m cb s 1 w hbt)
 have HF1 := hide (fun w hat => specFind_any oa n cap es (stAt s 1) w hat)
 have HI := hide (fun w => l01InR_any u 1 5 w)
 have HAT := hide hat
 have HBT := hide hbt
 clear hat hbt
 rw [levOf_eq]
 cases hin : inR u 1 5 with
 | false =>
  rw [hin] at HI
  go_enter Tryz.func115, Tryz.ntmps115
  go_wp2_with (go_at_call 95; refine (HI.out _).mono ?_; rintro e w' ⟨rfl, rfl⟩)
  go_ret
  exact ⟨rfl, Below.refl _ _⟩
 | true =>
  obtain ⟨hu1, hu2⟩ := inR_iff.1 hin
  rw [hin] at HI
  simp only [if_true]
  have HMD := hide (show madeOf es s u = (match evFind es (stAt s 1) with | none => 0 | some c => if c.kind = 1 ∧ c.sender = u then 100 else 0) from rfl)
  clear hin
  cases hf : evFind es (stAt s 2) with
  | none =>
   rw [evKn_none hf] at HF2
   generalize stAt s 2 = id at HA2 HF2
   clear hf
   simp only
   cases hc : evFind es (stAt s 1) with
   | none =>
    rw [hc] at HMD
    have hMD : madeOf es s u = 0 := HMD.out
    rw [hMD]
    rw [evKn_none hc] at HF1
    generalize stAt s 1 = id1 at HA1 HF1 hc
    clear hc HMD hMD
    go_enter Tryz.func115, Tryz.ntmps115
    go_wp2_with (first
     | (go_at_call 95; refine (HI.out _).mono ?_; rintro e' w' ⟨rfl, rfl⟩)
     | (go_at_call 55; (with_reducible refine HA2.out.mono ?_); rintro e' w' ⟨rfl, rfl⟩)
     | (go_at_call 56; (with_reducible refine HF2.out.mono ?_); rintro e' w1 ⟨xa, xc, ya, yc, rfl, hx1, hy1, hb1⟩)
     | (go_at_call 55; refine (HA1.out _ (HBT.out.below (below_var hb1 _))).mono ?_; rintro e' w' ⟨rfl, rfl⟩)
     | (go_at_call 56; refine (HF1.out _ (HAT.out.below (below_var hb1 _))).mono ?_; rintro e' w2 ⟨xa2, xc2, ya2, yc2, rfl, hx2, hy2, hb2⟩))
    go_ret
    exact ⟨rfl, below_var ((below_var hb1 _).trans (hb2.mono (below_var hb1 _).size)) _⟩
   | some c =>
    rw [hc] at HMD
    have hMD : madeOf es s u = if c.kind = 1 ∧ c.sender = u then 100 else 0 := HMD.out
    rw [hMD]
    rw [evKn_some hc] at HF1
    generalize stAt s 1 = id1 at HA1 HF1 hc
    clear hc HMD hMD
    by_cases k1 : c.kind = 1
    ·have m1 : (c.kind == 1) = true := by simpa using k1
     by_cases k2 : c.sender = u
     ·have m2 : (c.sender == u) = true := by simpa using k2
      rw [if_pos ⟨k1, k2⟩]
      clear k1 k2
      go_enter Tryz.func115, Tryz.ntmps115
      go_wp2_with (first
       | (go_at_call 95; refine (HI.out _).mono ?_; rintro e' w' ⟨rfl, rfl⟩)
       | (go_at_call 55; (with_reducible refine HA2.out.mono ?_); rintro e' w' ⟨rfl, rfl⟩)
       | (go_at_call 56; (with_reducible refine HF2.out.mono ?_); rintro e' w1 ⟨xa, xc, ya, yc, rfl, hx1, hy1, hb1⟩)
       | (go_at_call 55; refine (HA1.out _ (HBT.out.below (below_var hb1 _))).mono ?_; rintro e' w' ⟨rfl, rfl⟩)
       | (go_at_call 56; refine (HF1.out _ (HAT.out.below (below_var hb1 _))).mono ?_; rintro e' w2 ⟨xa2, xc2, ya2, yc2, rfl, hx2, hy2, hb2⟩))
      go_ret
      exact ⟨rfl, below_var ((below_var hb1 _).trans (hb2.mono (below_var hb1 _).size)) _⟩
     ·have m2 : (c.sender == u) = false := by simpa using k2
      rw [if_neg (fun h => k2 h.2)]
      clear k1 k2
      go_enter Tryz.func115, Tryz.ntmps115
      go_wp2_with (first
       | (go_at_call 95; refine (HI.out _).mono ?_; rintro e' w' ⟨rfl, rfl⟩)
       | (go_at_call 55; (with_reducible refine HA2.out.mono ?_); rintro e' w' ⟨rfl, rfl⟩)
       | (go_at_call 56; (with_reducible refine HF2.out.mono ?_); rintro e' w1 ⟨xa, xc, ya, yc, rfl, hx1, hy1, hb1⟩)
       | (go_at_call 55; refine (HA1.out _ (HBT.out.below (below_var hb1 _))).mono ?_; rintro e' w' ⟨rfl, rfl⟩)
       | (go_at_call 56; refine (HF1.out _ (HAT.out.below (below_var hb1 _))).mono ?_; rintro e' w2 ⟨xa2, xc2, ya2, yc2, rfl, hx2, hy2, hb2⟩))
      go_ret
      exact ⟨rfl, below_var ((below_var hb1 _).trans (hb2.mono (below_var hb1 _).size)) _⟩
    ·have m1 : (c.kind == 1) = false := by simpa using k1
     rw [if_neg (fun h => k1 h.1)]
     clear k1
     go_enter Tryz.func115, Tryz.ntmps115
     go_wp2_with (first
      | (go_at_call 95; refine (HI.out _).mono ?_; rintro e' w' ⟨rfl, rfl⟩)
      | (go_at_call 55; (with_reducible refine HA2.out.mono ?_); rintro e' w' ⟨rfl, rfl⟩)
      | (go_at_call 56; (with_reducible refine HF2.out.mono ?_); rintro e' w1 ⟨xa, xc, ya, yc, rfl, hx1, hy1, hb1⟩)
      | (go_at_call 55; refine (HA1.out _ (HBT.out.below (below_var hb1 _))).mono ?_; rintro e' w' ⟨rfl, rfl⟩)
      | (go_at_call 56; refine (HF1.out _ (HAT.out.below (below_var hb1 _))).mono ?_; rintro e' w2 ⟨xa2, xc2, ya2, yc2, rfl, hx2, hy2, hb2⟩))
     go_ret
     exact ⟨rfl, below_var ((below_var hb1 _).trans (hb2.mono (below_var hb1 _).size)) _⟩
  | some p =>
   rw [evKn_some hf] at HF2
   generalize stAt s 2 = id at HA2 HF2
   clear hf
   simp only at HF2 ⊢
   by_cases h1 : p.kind = 3
   ·have g1 : (p.kind == 3) = true := by simpa using h1
    by_cases h2 : p.levels.length = 5
    ·rw [if_pos ⟨h1, h2⟩]
     obtain ⟨j, hj⟩ : ∃ j : Nat, u = (j : Int) + 1 := ⟨u.toNat - 1, by omega⟩
     have hju : u.toNat - 1 = j := by omega
     rw [hju]
     have HL := hide h2
     have hjl : j < 5 := by omega
     have HJ := hide hj
     have g2 : ((p.levels.length : Int) == 5) = true := by simp; omega
     clear h1 hju h2 hj
     go_enter Tryz.func115, Tryz.ntmps115
     go_wp2_with (first
      | (go_at_call 95; refine (HI.out _).mono ?_; rintro e' w' ⟨rfl, rfl⟩)
      | (go_at_call 55; (with_reducible refine HA2.out.mono ?_); rintro e' w' ⟨rfl, rfl⟩)
      | (go_at_call 56; (with_reducible refine HF2.out.mono ?_); rintro e' w1 ⟨xa, xc, ya, yc, rfl, hx1, hy1, hb1⟩; obtain ⟨zz, bz, qz, hz, hidz, hbz, cz, wz⟩ := hx1.get Tryz.underlying32 infoI j (by have := HL.out; omega); rw [show (j : Int) = u - 1 by have := HJ.out; omega] at hidz; have cz' := (((Below.refl w1.heap.size w1).alloc (Nat.le_refl _) (.cells (evcells p.id p.kind p.sender p.user p.member p.depth (.slice xa p.levels.length xc) (.slice ya p.prev.length yc) p.text) 45)).cell hbz).trans cz))
     go_wp2_with fail
     go_ret
     refine ⟨?_, below_var hb1 _⟩
     rw [List.getD_eq_getElem?_getD, hz]
     rfl
    ·have g2 : ((p.levels.length : Int) == 5) = false := by simp; omega
     rw [if_neg (fun h => h2 h.2)]
     clear h1 h2
     cases hc : evFind es (stAt s 1) with
     | none =>
      rw [hc] at HMD
      have hMD : madeOf es s u = 0 := HMD.out
      rw [hMD]
      rw [evKn_none hc] at HF1
      generalize stAt s 1 = id1 at HA1 HF1 hc
      clear hc HMD hMD
      go_enter Tryz.func115, Tryz.ntmps115
      go_wp2_with (first
       | (go_at_call 95; refine (HI.out _).mono ?_; rintro e' w' ⟨rfl, rfl⟩)
       | (go_at_call 55; (with_reducible refine HA2.out.mono ?_); rintro e' w' ⟨rfl, rfl⟩)
       | (go_at_call 56; (with_reducible refine HF2.out.mono ?_); rintro e' w1 ⟨xa, xc, ya, yc, rfl, hx1, hy1, hb1⟩)
       | (go_at_call 55; refine (HA1.out _ (HBT.out.below (below_var hb1 _))).mono ?_; rintro e' w' ⟨rfl, rfl⟩)
       | (go_at_call 56; refine (HF1.out _ (HAT.out.below (below_var hb1 _))).mono ?_; rintro e' w2 ⟨xa2, xc2, ya2, yc2, rfl, hx2, hy2, hb2⟩))
      go_ret
      exact ⟨rfl, below_var ((below_var hb1 _).trans (hb2.mono (below_var hb1 _).size)) _⟩
     | some c =>
      rw [hc] at HMD
      have hMD : madeOf es s u = if c.kind = 1 ∧ c.sender = u then 100 else 0 := HMD.out
      rw [hMD]
      rw [evKn_some hc] at HF1
      generalize stAt s 1 = id1 at HA1 HF1 hc
      clear hc HMD hMD
      by_cases k1 : c.kind = 1
      ·have m1 : (c.kind == 1) = true := by simpa using k1
       by_cases k2 : c.sender = u
       ·have m2 : (c.sender == u) = true := by simpa using k2
        rw [if_pos ⟨k1, k2⟩]
        clear k1 k2
        go_enter Tryz.func115, Tryz.ntmps115
        go_wp2_with (first
         | (go_at_call 95; refine (HI.out _).mono ?_; rintro e' w' ⟨rfl, rfl⟩)
         | (go_at_call 55; (with_reducible refine HA2.out.mono ?_); rintro e' w' ⟨rfl, rfl⟩)
         | (go_at_call 56; (with_reducible refine HF2.out.mono ?_); rintro e' w1 ⟨xa, xc, ya, yc, rfl, hx1, hy1, hb1⟩)
         | (go_at_call 55; refine (HA1.out _ (HBT.out.below (below_var hb1 _))).mono ?_; rintro e' w' ⟨rfl, rfl⟩)
         | (go_at_call 56; refine (HF1.out _ (HAT.out.below (below_var hb1 _))).mono ?_; rintro e' w2 ⟨xa2, xc2, ya2, yc2, rfl, hx2, hy2, hb2⟩))
        go_ret
        exact ⟨rfl, below_var ((below_var hb1 _).trans (hb2.mono (below_var hb1 _).size)) _⟩
       ·have m2 : (c.sender == u) = false := by simpa using k2
        rw [if_neg (fun h => k2 h.2)]
        clear k1 k2
        go_enter Tryz.func115, Tryz.ntmps115
        go_wp2_with (first
         | (go_at_call 95; refine (HI.out _).mono ?_; rintro e' w' ⟨rfl, rfl⟩)
         | (go_at_call 55; (with_reducible refine HA2.out.mono ?_); rintro e' w' ⟨rfl, rfl⟩)
         | (go_at_call 56; (with_reducible refine HF2.out.mono ?_); rintro e' w1 ⟨xa, xc, ya, yc, rfl, hx1, hy1, hb1⟩)
         | (go_at_call 55; refine (HA1.out _ (HBT.out.below (below_var hb1 _))).mono ?_; rintro e' w' ⟨rfl, rfl⟩)
         | (go_at_call 56; refine (HF1.out _ (HAT.out.below (below_var hb1 _))).mono ?_; rintro e' w2 ⟨xa2, xc2, ya2, yc2, rfl, hx2, hy2, hb2⟩))
        go_ret
        exact ⟨rfl, below_var ((below_var hb1 _).trans (hb2.mono (below_var hb1 _).size)) _⟩
      ·have m1 : (c.kind == 1) = false := by simpa using k1
       rw [if_neg (fun h => k1 h.1)]
       clear k1
       go_enter Tryz.func115, Tryz.ntmps115
       go_wp2_with (first
        | (go_at_call 95; refine (HI.out _).mono ?_; rintro e' w' ⟨rfl, rfl⟩)
        | (go_at_call 55; (with_reducible refine HA2.out.mono ?_); rintro e' w' ⟨rfl, rfl⟩)
        | (go_at_call 56; (with_reducible refine HF2.out.mono ?_); rintro e' w1 ⟨xa, xc, ya, yc, rfl, hx1, hy1, hb1⟩)
        | (go_at_call 55; refine (HA1.out _ (HBT.out.below (below_var hb1 _))).mono ?_; rintro e' w' ⟨rfl, rfl⟩)
        | (go_at_call 56; refine (HF1.out _ (HAT.out.below (below_var hb1 _))).mono ?_; rintro e' w2 ⟨xa2, xc2, ya2, yc2, rfl, hx2, hy2, hb2⟩))
       go_ret
       exact ⟨rfl, below_var ((below_var hb1 _).trans (hb2.mono (below_var hb1 _).size)) _⟩
   ·have g1 : (p.kind == 3) = false := by simpa using h1
    rw [if_neg (fun h => h1 h.1)]
    clear h1
    cases hc : evFind es (stAt s 1) with
    | none =>
     rw [hc] at HMD
     have hMD : madeOf es s u = 0 := HMD.out
     rw [hMD]
     rw [evKn_none hc] at HF1
     generalize stAt s 1 = id1 at HA1 HF1 hc
     clear hc HMD hMD
     go_enter Tryz.func115, Tryz.ntmps115
     go_wp2_with (first
      | (go_at_call 95; refine (HI.out _).mono ?_; rintro e' w' ⟨rfl, rfl⟩)
      | (go_at_call 55; (with_reducible refine HA2.out.mono ?_); rintro e' w' ⟨rfl, rfl⟩)
      | (go_at_call 56; (with_reducible refine HF2.out.mono ?_); rintro e' w1 ⟨xa, xc, ya, yc, rfl, hx1, hy1, hb1⟩)
      | (go_at_call 55; refine (HA1.out _ (HBT.out.below (below_var hb1 _))).mono ?_; rintro e' w' ⟨rfl, rfl⟩)
      | (go_at_call 56; refine (HF1.out _ (HAT.out.below (below_var hb1 _))).mono ?_; rintro e' w2 ⟨xa2, xc2, ya2, yc2, rfl, hx2, hy2, hb2⟩))
     go_ret
     exact ⟨rfl, below_var ((below_var hb1 _).trans (hb2.mono (below_var hb1 _).size)) _⟩
    | some c =>
     rw [hc] at HMD
     have hMD : madeOf es s u = if c.kind = 1 ∧ c.sender = u then 100 else 0 := HMD.out
     rw [hMD]
     rw [evKn_some hc] at HF1
     generalize stAt s 1 = id1 at HA1 HF1 hc
     clear hc HMD hMD
     by_cases k1 : c.kind = 1
     ·have m1 : (c.kind == 1) = true := by simpa using k1
      by_cases k2 : c.sender = u
      ·have m2 : (c.sender == u) = true := by simpa using k2
       rw [if_pos ⟨k1, k2⟩]
       clear k1 k2
       go_enter Tryz.func115, Tryz.ntmps115
       go_wp2_with (first
        | (go_at_call 95; refine (HI.out _).mono ?_; rintro e' w' ⟨rfl, rfl⟩)
        | (go_at_call 55; (with_reducible refine HA2.out.mono ?_); rintro e' w' ⟨rfl, rfl⟩)
        | (go_at_call 56; (with_reducible refine HF2.out.mono ?_); rintro e' w1 ⟨xa, xc, ya, yc, rfl, hx1, hy1, hb1⟩)
        | (go_at_call 55; refine (HA1.out _ (HBT.out.below (below_var hb1 _))).mono ?_; rintro e' w' ⟨rfl, rfl⟩)
        | (go_at_call 56; refine (HF1.out _ (HAT.out.below (below_var hb1 _))).mono ?_; rintro e' w2 ⟨xa2, xc2, ya2, yc2, rfl, hx2, hy2, hb2⟩))
       go_ret
       exact ⟨rfl, below_var ((below_var hb1 _).trans (hb2.mono (below_var hb1 _).size)) _⟩
      ·have m2 : (c.sender == u) = false := by simpa using k2
       rw [if_neg (fun h => k2 h.2)]
       clear k1 k2
       go_enter Tryz.func115, Tryz.ntmps115
       go_wp2_with (first
        | (go_at_call 95; refine (HI.out _).mono ?_; rintro e' w' ⟨rfl, rfl⟩)
        | (go_at_call 55; (with_reducible refine HA2.out.mono ?_); rintro e' w' ⟨rfl, rfl⟩)
        | (go_at_call 56; (with_reducible refine HF2.out.mono ?_); rintro e' w1 ⟨xa, xc, ya, yc, rfl, hx1, hy1, hb1⟩)
        | (go_at_call 55; refine (HA1.out _ (HBT.out.below (below_var hb1 _))).mono ?_; rintro e' w' ⟨rfl, rfl⟩)
        | (go_at_call 56; refine (HF1.out _ (HAT.out.below (below_var hb1 _))).mono ?_; rintro e' w2 ⟨xa2, xc2, ya2, yc2, rfl, hx2, hy2, hb2⟩))
       go_ret
       exact ⟨rfl, below_var ((below_var hb1 _).trans (hb2.mono (below_var hb1 _).size)) _⟩
     ·have m1 : (c.kind == 1) = false := by simpa using k1
      rw [if_neg (fun h => k1 h.1)]
      clear k1
      go_enter Tryz.func115, Tryz.ntmps115
      go_wp2_with (first
       | (go_at_call 95; refine (HI.out _).mono ?_; rintro e' w' ⟨rfl, rfl⟩)
       | (go_at_call 55; (with_reducible refine HA2.out.mono ?_); rintro e' w' ⟨rfl, rfl⟩)
       | (go_at_call 56; (with_reducible refine HF2.out.mono ?_); rintro e' w1 ⟨xa, xc, ya, yc, rfl, hx1, hy1, hb1⟩)
       | (go_at_call 55; refine (HA1.out _ (HBT.out.below (below_var hb1 _))).mono ?_; rintro e' w' ⟨rfl, rfl⟩)
       | (go_at_call 56; refine (HF1.out _ (HAT.out.below (below_var hb1 _))).mono ?_; rintro e' w2 ⟨xa2, xc2, ya2, yc2, rfl, hx2, hy2, hb2⟩))
      go_ret
      exact ⟨rfl, below_var ((below_var hb1 _).trans (hb2.mono (below_var hb1 _).size)) _⟩

end Go.Proofs.YtnkjjbpmdghcbaaGreat
