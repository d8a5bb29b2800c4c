/-
  Walks and mathematics of Walk10n.
-/
import Derived.Test.YtnkjjbpmdghcbaaGreatQWalk10m
namespace Go.Proofs.YtnkjjbpmdghcbaaGreat.P11
end Go.Proofs.YtnkjjbpmdghcbaaGreat.P11
namespace Go.Proofs.YtnkjjbpmdghcbaaGreat.P3
end Go.Proofs.YtnkjjbpmdghcbaaGreat.P3
namespace Go.Proofs.YtnkjjbpmdghcbaaGreat
open Go.RowKit P1 P3 P5 P9 P11 P12 P14 K
set_option linter.unusedVariables false
set_option linter.unusedSimpArgs false

theorem bare_at {s : List (Int × Int)} {j : Nat} {x : Int × Int} (h : s[j]? = some x) : stBare (s.drop j) = (decide (x.1 ≤ 10) && stBare (s.drop (j + 1))) := by
 obtain ⟨hj, rfl⟩ := List.getElem?_eq_some_iff.1 h
 rw [List.drop_eq_getElem_cons hj]
 simp only [stBare, List.all_cons]

theorem l10Empty_any (oa : Option Addr) (n cap : Nat) (s : List (Int × Int)) (w : World) (hat : ItemsAt w oa n cap s) :
  Calls Tryz.prog 193 #[.slice oa n cap] w fun e w' => e = .returned (.bool (stBare s)) ∧ w = w' := by
 have hn := hat.len
 have hm := Nat.le_trans hat.room hat.most
 unfold maxLen at hm
 have HN := hide hn
 have HAT := hide hat
 clear hn hat
 go_enter Tryz.func193, Tryz.ntmps193
 go_wp2_with fail
 go_loop [3] (fun i => ∃ (j : Nat), i = .int .i64 (j : Int) ∧ j ≤ n ∧ stBare (s.drop j) = stBare s) (fun i => n - (intOf i).toNat)
 case atStart => exact ⟨0, rfl, Nat.zero_le _, rfl⟩
 case round =>
  obtain ⟨j, rfl, hj, hrest⟩ := hrel
  by_cases hlt : j < n
  ·have j0 : (j : Int) < (n : Int) := by omega
   obtain ⟨x, b, q, hx, hidx, hb, c0, c1⟩ := HAT.out.get Tryz.underlying28 infoII j hlt
   rw [bare_at hx] at hrest
   clear hx
   by_cases hk : x.1 ≤ 10
   ·have g : ¬ (10 : Int) < x.1 := by omega
    rw [decide_eq_true hk, Bool.true_and] at hrest
    have HR := hide hrest
    clear hk hrest
    go_wp2_with fail
    go_round
    case rel => exact ⟨j + 1, by go_num, by omega, HR.out⟩
    case measure => simp [intOf]; omega
   ·have g : (10 : Int) < x.1 := by omega
    rw [decide_eq_false hk, Bool.false_and] at hrest
    have HR := hide hrest
    clear hk hrest
    go_wp2_with fail
    go_ret
    exact ⟨by rw [← HR.out]; rfl, rfl⟩
  ·have hjn : j = n := by omega
   have HR := hide (show stBare s = true by rw [← hrest, hjn, ← HN.out, List.drop_length]; rfl)
   clear hrest
   go_wp2_with fail
   go_ret
   exact ⟨by rw [HR.out]; rfl, rfl⟩

structure ArgsE (w : World) (oa : Option Addr) (n cap : Nat) (es : List EvV) (ob : Option Addr) (m cb : Nat) (s : List (Int × Int)) : Prop where
 evs : EvsAt w oa n cap es
 its : ItemsAt w ob m cb s
theorem ArgsE.on {w w' : World} {oa : Option Addr} {n cap : Nat} {es : List EvV} {ob : Option Addr} {m cb : Nat} {s : List (Int × Int)} (h : ArgsE w oa n cap es ob m cb s) (hb : Below w.heap.size w w') : ArgsE w' oa n cap es ob m cb s := ⟨h.evs.below hb, h.its.below hb⟩

theorem dec_beq (a b : Int) : decide (a = b) = (a == b) := rfl
theorem ne_beq {a b : Int} {r : Bool} (h : (a == b) = r) : (a != b) = !r := by rw [← h]; rfl

theorem okSelf_eq (es : List EvV) (s : List (Int × Int)) (e : EvV) : okSelf es s e = if (e.member == 2) = true then (((memOf es s e.user == 1) || (memOf es s e.user == 2)) || ((evKn es (stAt s 1)).2 && (((evKn es (stAt s 1)).1.sender == e.sender) && stBare s))) else if (e.member == 0) = true then ((memOf es s e.user == 1) || (memOf es s e.user == 2)) else false := by
 unfold okSelf
 simp only [beq_iff_eq, dec_beq]
 cases hf : evFind es (stAt s 1) with
 | none => rw [evKn_none hf]; simp
 | some c => rw [evKn_some hf]; simp

set_option maxHeartbeats 8000000 in
theorem l10Self_any (oa : Option Addr) (n cap : Nat) (es : List EvV) (ob : Option Addr) (m cb : Nat) (s : List (Int × Int)) (e : EvV) (xl xp : Value) (w : World) (hat : ArgsE w oa n cap es ob m cb s) :
  Calls Tryz.prog 165 #[.slice oa n cap, .slice ob m cb, evv e xl xp] w fun r w' => r = .returned (.bool (okSelf es s e)) ∧ Below w.heap.size w w' := by
 have hb0 := (Below.refl w.heap.size w).alloc (Nat.le_refl _) (.cells (evcells e.id e.kind e.sender e.user e.member e.depth xl xp e.text) 45)
 have HB0 := hide hb0
 have HM := hide (specMemberOf_any oa n cap es ob m cb s e.user _ (hat.evs.below hb0) (hat.its.below hb0))
 have HA := hide (fun w hbt => specAt_any ob m cb s 1 w hbt)
 have HF := hide (fun w hat => specFind_any oa n cap es (stAt s 1) w hat)
 have HE := hide (fun w hbt => l10Empty_any ob m cb s w hbt)
 have HAT := hide hat
 have HEV := hide (EB.new w e.id e.kind e.sender e.user e.member e.depth xl xp e.text)
 clear hat hb0
 rw [okSelf_eq]
 generalize memOf es s e.user = now at HM ⊢
 generalize stBare s = bare at HE ⊢
 generalize evKn es (stAt s 1) = R at HF ⊢
 generalize stAt s 1 = id at HA HF
 obtain ⟨c, ok⟩ := R
 simp only at HF ⊢
 have rest : (e.member == 2) = false → Calls Tryz.prog 165 #[.slice oa n cap, .slice ob m cb, evv e xl xp] w fun r w' => r = .returned (.bool (if (e.member == 0) = true then ((now == 1) || (now == 2)) else false)) ∧ Below w.heap.size w w' := by
  intro gm
  cases g0 : (e.member == 0)
  ·rw [if_neg (by simp)]
   go_enter Tryz.func165, Tryz.ntmps165
   go_wp2_with fail
   refine HM.out.mono ?_
   rintro r w1 ⟨rfl, hb1⟩
   have hBw1 := HB0.out.trans (hb1.mono HB0.out.size)
   have HEV1 := hide (HEV.out.on hb1 HEV.out.lt)
   obtain ⟨a0, a1, a2, a3, a4, a5, a6, a7, a8⟩ := HEV1.out.ev
   go_wp2_with fail
   go_ret
   exact ⟨rfl, hBw1⟩
  ·rw [if_pos rfl]
   cases g1 : (now == 1) <;> cases g2 : (now == 2)
   all_goals
    go_enter Tryz.func165, Tryz.ntmps165
    go_wp2_with fail
    refine HM.out.mono ?_
    rintro r w1 ⟨rfl, hb1⟩
    have hBw1 := HB0.out.trans (hb1.mono HB0.out.size)
    have HEV1 := hide (HEV.out.on hb1 HEV.out.lt)
    obtain ⟨a0, a1, a2, a3, a4, a5, a6, a7, a8⟩ := HEV1.out.ev
    go_wp2_with fail
    go_ret
    exact ⟨rfl, hBw1⟩
 cases gm : (e.member == 2)
 ·rw [if_neg (by simp)]
  exact rest gm
 ·rw [if_pos rfl]
  clear rest
  cases g1 : (now == 1) <;> cases g2 : (now == 2) <;> cases ok <;> cases g3 : (c.sender == e.sender)
  all_goals
   go_enter Tryz.func165, Tryz.ntmps165
   go_wp2_with fail
   refine HM.out.mono ?_
   rintro r w1 ⟨rfl, hb1⟩
   have hBw1 := HB0.out.trans (hb1.mono HB0.out.size)
   have HEV1 := hide (HEV.out.on hb1 HEV.out.lt)
   obtain ⟨a0, a1, a2, a3, a4, a5, a6, a7, a8⟩ := HEV1.out.ev
   go_wp2_with fail
   refine (HA.out _ (HAT.out.its.below hBw1)).mono ?_
   rintro r w2 ⟨rfl, rfl⟩
   go_wp2_with fail
   refine (HF.out _ (HAT.out.evs.below hBw1)).mono ?_
   rintro r w2 ⟨xa, xc, ya, yc, rfl, hx2, hy2, hb2⟩
   have hB2 := hBw1.trans (hb2.mono hBw1.size)
   have HEV2 := hide (HEV1.out.on hb2 HEV1.out.lt)
   have hlt2 := HEV2.out.lt
   have hB3 := below_var hB2 (.cells (evcells c.id c.kind c.sender c.user c.member c.depth (.slice xa c.levels.length xc) (.slice ya c.prev.length yc) c.text) 45)
   clear a0 a1 a2 a3 a4 a5 a6 a7 a8
   obtain ⟨a0, a1, a2, a3, a4, a5, a6, a7, a8⟩ := HEV2.out.ev
   go_wp2_with (go_at_call 193; refine (HE.out _ (HAT.out.its.below hB3)).mono ?_; rintro r w4 ⟨rfl, rfl⟩)
   go_ret
   exact ⟨by simp, hB3⟩

end Go.Proofs.YtnkjjbpmdghcbaaGreat
