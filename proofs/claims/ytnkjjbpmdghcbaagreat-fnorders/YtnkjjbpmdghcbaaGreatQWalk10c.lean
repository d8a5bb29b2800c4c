/-
  Walks and mathematics of Walk10c.
-/
import Derived.Test.YtnkjjbpmdghcbaaGreatQPlain1
import Derived.Test.YtnkjjbpmdghcbaaGreatQWalk10b
import Derived.Carry
namespace Go.Proofs.YtnkjjbpmdghcbaaGreat.P11
end Go.Proofs.YtnkjjbpmdghcbaaGreat.P11
namespace Go.Proofs.YtnkjjbpmdghcbaaGreat
open Go.RowKit P1 P5 P9 P11 P12 P14 K
set_option linter.unusedVariables false
set_option linter.unusedSimpArgs false

def IdsOk (w : World) (b : Nat) (s : List (Int × Int)) : Prop := ∃ D m, m ≤ s.length ∧ IdTab w b (stFind s) m D

theorem IdsOk.below {w w' : World} {b : Nat} {s : List (Int × Int)} (h : IdsOk w b s) (hb : Below w.heap.size w w') : IdsOk w' b s := by
 obtain ⟨D, m, hm, h⟩ := h
 exact ⟨D, m, hm, h.below hb⟩

theorem take_snoc {s : List (Int × Int)} {j : Nat} {x : Int × Int} (h : s[j]? = some x) : s.take (j + 1) = s.take j ++ [x] := by
 rw [List.take_add_one, h]; rfl

theorem turned_up {w w' : World} {b B : Nat} (h : w.mapTurned w' b) (hb : B ≤ b) (hB : B ≤ w.heap.size) : Below B w w' := (Below.refl B w).grown h.grown hB (fun k hk => by cases hk; exact hb)

set_option maxHeartbeats 4000000 in
theorem keyed_any (oa : Option Addr) (n cap : Nat) (s : List (Int × Int)) (hn20 : n ≤ 1048576) (w : World) (hat : ItemsAt w oa n cap s) (hws : ∀ y ∈ s, WideI y) :
  Calls Tryz.prog 59 #[.slice oa n cap] w fun e w' => e = .returned (.map (some w.heap.size)) ∧ IdsOk w' w.heap.size s ∧ Below w.heap.size w w' := by
 have hn := hat.len
 have HN := hide hn
 have HAT := hide hat
 have HWS := hide hws
 have hmm : (Instr.makeMap 82 none).run Tryz.prog w = .ok (.map (some w.heap.size)) (w.alloc (.map #[] 0)) := by
  simp [Instr.makeMap, Sem.run_bind, run_underlying Tryz.underlying82 w, asInt, Result.andThen, newObj]
  try rfl
 clear hn hat hws
 go_enter Tryz.func59, Tryz.ntmps59
 go_wp2_with fail
 have HT0 := hide (idTab_new w)
 have HB0 := hide ((Below.refl w.heap.size w).alloc (Nat.le_refl _) (.map #[] 0))
 go_loopw [11] (fun i wr => ∃ j : Nat, i = .int .i64 (j : Int) ∧ j ≤ n ∧ IdsOk wr w.heap.size (s.take j) ∧ Below w.heap.size w wr) (fun i _ => n - (intOf i).toNat)
 case atStart => exact ⟨0, rfl, Nat.zero_le _, ⟨_, 0, Nat.zero_le _, HT0.out⟩, HB0.out⟩
 case round =>
  obtain ⟨j, rfl, hj, hT, hbel⟩ := hrel
  have HTR := hide hT
  have HBR := hide hbel
  have hsz := hbel.size
  clear hT hbel
  by_cases hlt : j < n
  ·have j0 : (j : Int) < (n : Int) := by omega
   obtain ⟨x, b, q, hx, hidx, hb, c0, c1⟩ := (HAT.out.below HBR.out).get Tryz.underlying28 infoII j hlt
   have hwx := HWS.out x (List.mem_of_getElem? hx)
   have HTK := hide (take_snoc hx)
   obtain ⟨D, m, hm, hT⟩ := HTR.out
   have hll : (s.take j).length = j := by rw [List.length_take, HN.out]; omega
   have hba := (Below.refl wr.heap.size wr).alloc (Nat.le_refl _) (.cells #[.int .i64 x.1, .int .i64 x.2] 36)
   have hTa := hT.below hba
   have hlk := hTa.look hwx.1
   have hkey := keyI hwx.1
   have hval := plainElem_int (H := Unit) Tryz.underlying3 hwx.2
   have HW := hide hwx
   have HX := hide hx
   have HTA := hide hTa
   have HBA := hide hba
   have hblt := hT.lt
   rw [hll] at hm
   clear hTa hba hT HTR hwx hx hll
   cases hF : stFind (s.take j) x.1 with
   | none =>
    rw [hF] at hlk
    simp only [Option.getD_none, Option.isSome_none] at hlk
    have hown1 := HTA.out.own
    go_wp2_with (at_mapUpdate; refine wpList_mapUpdate_in _ rfl _ _ _ 82 rfl 3 3 (Maps.int_keyed Tryz.underlying3) Tryz.underlying82 (plainElem Tryz.prog 3) w.heap.size m D rfl hown1 (by unfold maxLen; omega) _ _ (.int .i64 x.1) rfl rfl hkey (numD x.2) [] hval ?_; intro w1 hown2 hturn2)
    have h3 := HTA.out.store HW.out.1 HW.out.2 hown2
    rw [hF, ← stFind_new hF, ← HTK.out] at h3
    have hT' : IdsOk w1 w.heap.size (s.take (j + 1)) := ⟨_, _, by rw [List.length_take, HN.out]; simp; omega, h3⟩
    have hB' : Below w.heap.size w w1 := (HBR.out.trans (HBA.out.mono hsz)).trans (turned_up hturn2 (Nat.le_refl _) (by simp; omega))
    clear h3 hown2 hturn2 hown1
    go_wp2_with fail
    go_roundw
    case rel => exact ⟨j + 1, by go_num, by omega, hT', hB'⟩
    case measure => simp [intOf]; omega
   | some i =>
    rw [hF] at hlk
    simp only [Option.getD_some, Option.isSome_some] at hlk
    have h3 := HTA.out
    rw [← stFind_old hF, ← HTK.out] at h3
    have HT' := hide (show IdsOk (wr.alloc (.cells #[.int .i64 x.1, .int .i64 x.2] 36)) w.heap.size (s.take (j + 1)) from ⟨_, _, by rw [List.length_take, HN.out]; omega, h3⟩)
    have HB' := hide (HBR.out.trans (HBA.out.mono hsz))
    clear h3
    go_wp2_with fail
    go_roundw
    case rel => exact ⟨j + 1, by go_num, by omega, HT'.out, HB'.out⟩
    case measure => simp [intOf]; omega
  ·have hall : s.take j = s := List.take_of_length_le (by rw [HN.out]; omega)
   have HA := hide hall
   clear hall
   go_wp2_with fail
   go_ret
   exact ⟨rfl, by rw [← HA.out]; exact HTR.out, HBR.out⟩

theorem stAt_at {s : List (Int × Int)} {j : Nat} {x : Int × Int} (k : Int) (h : s[j]? = some x) : stAt (s.drop j) k = if x.1 = k then x.2 else stAt (s.drop (j + 1)) k := by
 obtain ⟨hj, rfl⟩ := List.getElem?_eq_some_iff.1 h
 rw [List.drop_eq_getElem_cons hj]
 rfl

theorem specAt_any (oa : Option Addr) (n cap : Nat) (s : List (Int × Int)) (k : Int) (w : World) (hat : ItemsAt w oa n cap s) :
  Calls Tryz.prog 55 #[.slice oa n cap, .int .i64 k] w fun e w' => e = .returned (.int .i64 (stAt s k)) ∧ w = w' := by
 have hn := hat.len
 have hm := Nat.le_trans hat.room hat.most
 unfold maxLen at hm
 have HN := hide hn
 have HAT := hide hat
 clear hn hat
 go_enter Tryz.func55, Tryz.ntmps55
 go_wp2_with fail
 go_loop [5] (fun i => ∃ (j : Nat), i = .int .i64 (j : Int) ∧ j ≤ n ∧ stAt (s.drop j) k = stAt s k) (fun i => n - (intOf i).toNat)
 case atStart => exact ⟨0, rfl, Nat.zero_le _, rfl⟩
 case round =>
  obtain ⟨j, rfl, hj, hrest⟩ := hrel
  by_cases hlt : j < n
  ·have j0 : (j : Int) < (n : Int) := by omega
   obtain ⟨x, b, q, hx, hidx, hb, c0, c1⟩ := HAT.out.get Tryz.underlying28 infoII j hlt
   rw [stAt_at k hx] at hrest
   clear hx
   by_cases hk : x.1 = k
   ·have g : (x.1 == k) = true := by simpa using hk
    rw [if_pos hk] at hrest
    have HR := hide hrest
    clear hk hrest
    go_wp2_with fail
    go_ret
    exact ⟨by rw [← HR.out]; rfl, rfl⟩
   ·have g : (x.1 == k) = false := by simpa using hk
    rw [if_neg hk] at hrest
    have HR := hide hrest
    clear hk hrest
    go_wp2_with fail
    go_round
    case rel => exact ⟨j + 1, by go_num, by omega, HR.out⟩
    case measure => simp [intOf]; omega
  ·have hjn : j = n := by omega
   have HR := hide (show stAt s k = 0 by rw [← hrest, hjn, ← HN.out, List.drop_length]; rfl)
   clear hrest
   go_wp2_with fail
   go_ret
   exact ⟨by rw [HR.out]; rfl, rfl⟩

end Go.Proofs.YtnkjjbpmdghcbaaGreat
