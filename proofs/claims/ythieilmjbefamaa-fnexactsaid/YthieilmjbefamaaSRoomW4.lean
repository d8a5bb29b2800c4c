/-
  Walks and mathematics of RoomW4.
-/
import Derived.Test.YthieilmjbefamaaSRoomW3
namespace Go.Proofs.Ythieilmjbefamaa.P11
end Go.Proofs.Ythieilmjbefamaa.P11
namespace Go.Proofs.Ythieilmjbefamaa.P14
end Go.Proofs.Ythieilmjbefamaa.P14
namespace Go.Proofs.Ythieilmjbefamaa.P3
end Go.Proofs.Ythieilmjbefamaa.P3
namespace Go.Proofs.Ythieilmjbefamaa.P9
end Go.Proofs.Ythieilmjbefamaa.P9
namespace Go.Proofs.Ythieilmjbefamaa
open Go.RowKit P1 P3 P5 P9 P11 P12 P14 K
set_option linter.unusedVariables false
set_option linter.unusedSimpArgs false

theorem own_anyK {w w' : World} {b1 b2 : Nat} {e : TypeId} {k : Nat} {v1 v2 : Value} {n1 n2 : Nat} {xs1 xs2 ys2 : List Value} (h1 : w.ownsRow b1 e k v1 n1 xs1) (h2 : w.ownsRow b2 e k v2 n2 xs2) (h2' : w'.ownsRow b2 e k v2 n2 ys2) (hg : w.grownBy w' v2.ownBlock) : ∃ ys1, w'.ownsRow b1 e k v1 n1 ys1 := by
  rcases h1.2 with ⟨rfl, rfl⟩ | ⟨g, cap, cur, rfl, hb, hgb, hnc, hcm, hcs, htk⟩
  · exact ⟨[], World.ownsRow_nil _ _ _ _⟩
  · by_cases hq : v2.ownBlock = some g
    · rcases h2.2 with ⟨rfl, -⟩ | ⟨g2, cap2, cur2, rfl, hb2, hgb2, hnc2, hcm2, hcs2, htk2⟩
      · cases hq
      · cases hq
        rcases h2'.2 with ⟨q, -⟩ | ⟨g3, cap3, cur3, q, hb3, hgb3, hnc3, hcm3, hcs3, htk3⟩
        · cases q
        · cases q
          rw [hgb] at hgb2
          cases hgb2
          have hcc : cap * k = cap2 * k := by rw [← hcs, ← hcs2]
          have hle : n1 * k ≤ cap * k := Nat.mul_le_mul_right k hnc
          exact ⟨cur3.toList.take (n1 * k), by rw [List.length_take, Array.length_toList, hcs3]; omega, .inr ⟨_, cap, cur3, rfl, hb, hgb3, hnc, hcm, by omega, rfl⟩⟩
    · exact ⟨xs1, h1.kept hg (.inr (fun e => hq e.symm))⟩

structure StRows (w : World) (lo hi g n : Nat) (ls : List Nat) : Prop where
  len : ls.length = n
  top : g < hi
  own : ∃ xs : List Value, w.ownsRow lo 73 1 (.slice (some ⟨g, 0, none⟩) n n) n xs ∧ ∀ (i l : Nat), ls[i]? = some l → ∃ (q : Nat) (ys : List Value), xs[i]? = some (Value.slice (some ⟨q, 0, none⟩) l l) ∧ q < hi ∧ w.ownsRow lo 84 2 (.slice (some ⟨q, 0, none⟩) l l) l ys

theorem StSh.rows {w : World} {lo hi g : Nat} {ss : List (List (Int × Int))} {xs : List Value} (h : StSh w lo hi g ss ss.length xs) (hl : xs.length = ss.length) : StRows w lo hi g ss.length (ss.map List.length) := by
  have ho := h.own
  rw [hl] at ho
  refine ⟨by simp, h.top, xs, ho, fun i l hl' => ?_⟩
  rw [List.getElem?_map] at hl'
  cases hs : ss[i]? with
  | none => rw [hs] at hl'; cases hl'
  | some s =>
    rw [hs] at hl'
    cases hl'
    obtain ⟨q, q1, q2, q3⟩ := h.each i s (List.getElem?_eq_some_iff.1 hs).1 hs
    exact ⟨q, _, q1, q2, q3⟩

theorem sum_take_le : ∀ (ls : List Nat) (j : Nat), (ls.take j).sum ≤ ls.sum
  | [], j => by simp
  | a :: r, 0 => by simp
  | a :: r, j + 1 => by
    rw [List.take_succ_cons, List.sum_cons, List.sum_cons]
    have := sum_take_le r j
    omega

theorem sum_mem_le : ∀ {ls : List Nat} {l : Nat}, l ∈ ls → l ≤ ls.sum
  | a :: r, l, h => by
    rw [List.sum_cons]
    rcases List.mem_cons.1 h with rfl | h
    · omega
    · have := sum_mem_le h
      omega

def MkB (w : World) (lo hi top : Nat) (e : Ending) (w' : World) : Prop := ∃ k : Nat, e = .returned (.int .i64 (k : Int)) ∧ k ≤ top ∧ Within lo hi w w'

set_option maxHeartbeats 4000000 in
theorem markItemSS_any (g n lo hi k0 : Nat) (ls : List Nat) (hk0 : k0 ≤ 10000000) (hn20 : n ≤ 1048576) (hs20 : ls.sum ≤ 1048576) (w : World) (hR : StRows w lo hi g n ls) :
    Calls Try.prog 33 #[.slice (some ⟨g, 0, none⟩) n n, .int .i64 (k0 : Int)] w (MkB w lo hi 20000000) := by
  have HR := hide hR
  have HN := hide hR.len
  have HS := hide hs20
  clear hR hs20
  go_enter Try.func33, Try.ntmps33
  go_wp2_with fail
  go_loopw [1, 5] (fun x i wr => ∃ (j k : Nat), i = .int .i64 (j : Int) ∧ x = .int .i64 (k : Int) ∧ j ≤ n ∧ k = k0 + 2 * (ls.take j).sum ∧ StRows wr lo hi g n ls ∧ Within lo hi w wr) (fun _ i _ => n - (intOf i).toNat)
  case atStart => exact ⟨0, k0, rfl, rfl, Nat.zero_le _, by simp, HR.out, Within.refl _ _ _⟩
  case round =>
    obtain ⟨j, k, rfl, rfl, hj, hk, hR, hwi⟩ := hrel
    have hk9 : k ≤ 15000000 := by have := sum_take_le ls j; have := HS.out; omega
    have HK := hide hk
    have HRR := hide hR
    have HW := hide hwi
    clear hk hR hwi
    by_cases hlt : j < n
    · have j0 : (j : Int) < (n : Int) := by omega
      obtain ⟨l, hl⟩ : ∃ l, ls[j]? = some l := ⟨_, List.getElem?_eq_getElem (by rw [HN.out]; exact hlt)⟩
      obtain ⟨xs, ho, hev⟩ := HRR.out.own
      obtain ⟨q, ys, hq, hqt, hoq⟩ := hev j l hl
      have hll : l ≤ 1048576 := Nat.le_trans (sum_mem_le (List.mem_of_getElem? hl)) HS.out
      have hidx : ∀ wx, (Instr.indexAt 31 (.slice (some ⟨g, 0, none⟩) n n) (.int .i64 (j : Int))).run Try.prog wx = .ok (.pointer (some ⟨g, j, none⟩)) wx := fun wx => by
        have := run_indexAt_slice wx 31 73 1 Try.underlying31 infoSS1 g 0 n n j hlt
        rwa [Nat.zero_add, Nat.mul_one] at this
      have cj : wr.cell? ⟨g, j, none⟩ = some (.slice (some ⟨q, 0, none⟩) l l) := by rw [ho.cellAt j (by have := ho.1; omega)]; exact hq
      have HM := hide (markItemS_own q l l lo k hll (by omega) wr ys hoq)
      have HO := hide ho
      have HEV := hide hev
      have HOQ := hide hoq
      have HL := hide hl
      clear hoq ho hev hl hq
      go_wp2_with (go_at_call 44; (with_reducible refine HM.out.mono ?_); rintro r w2 ⟨rfl, ho2, hg2⟩)
      have hgq := (HOQ.out.lt q rfl)
      have hR2 : StRows w2 lo hi g n ls := ⟨HN.out, HRR.out.top, xs, HO.out.kept hg2 (.inr (fun e => own_apart HO.out HOQ.out (by decide) _ e rfl)), fun i l' hl' => by
        obtain ⟨q', ys', a1, a2, a3⟩ := HEV.out i l' hl'
        obtain ⟨zs, a4⟩ := own_anyK a3 HOQ.out ho2 hg2
        exact ⟨q', zs, a1, a2, a4⟩⟩
      have HR2 := hide hR2
      have HW2 := hide (HW.out.trans (Within.row (lo := lo) (hi := hi) (row := some q) hg2 (fun z hz => by cases hz; exact ⟨hgq.1, hqt⟩)))
      have HK2 := hide (show k + 2 * l = k0 + 2 * (ls.take (j + 1)).sum from by
        rw [List.take_add_one, HL.out]
        have := HK.out
        simp
        omega)
      clear ho2 hg2 hR2
      go_roundw
      case rel => exact ⟨j + 1, k + 2 * l, by go_num, rfl, by omega, HK2.out, HR2.out, HW2.out⟩
      case measure => simp [intOf]; omega
    · go_wp2_with fail
      go_ret
      exact ⟨k, rfl, by omega, HW.out⟩

set_option maxHeartbeats 4000000 in
theorem markBoolS_any (g n lo hi k0 : Nat) (hk0 : k0 ≤ 20000000) (hn20 : n ≤ 1048576) (hg : g < hi) (w : World) (xs : List Value) (hown : w.ownsRow lo 4 1 (.slice (some ⟨g, 0, none⟩) n n) n xs) :
    Calls Try.prog 34 #[.slice (some ⟨g, 0, none⟩) n n, .int .i64 (k0 : Int)] w (MkB w lo hi 30000000) := by
  have HO := hide hown
  clear hown
  go_enter Try.func34, Try.ntmps34
  go_wp2_with fail
  go_loopw [1, 5] (fun x i wr => ∃ (j : Nat) (ys : List Value), i = .int .i64 (j : Int) ∧ x = .int .i64 ((k0 + j : Nat) : Int) ∧ j ≤ n ∧ wr.ownsRow lo 4 1 (.slice (some ⟨g, 0, none⟩) n n) n ys ∧ Within lo hi w wr) (fun _ i _ => n - (intOf i).toNat)
  case atStart => exact ⟨0, xs, rfl, rfl, Nat.zero_le _, HO.out, Within.refl _ _ _⟩
  case round =>
    obtain ⟨j, ys, rfl, rfl, hj, hown, hwi⟩ := hrel
    by_cases hlt : j < n
    · have j0 : (j : Int) < (n : Int) := by omega
      have hidx2 : ∀ wx, (Instr.indexAt 24 (.slice (some ⟨g, 0, none⟩) n n) (.int .i64 (j : Int))).run Try.prog wx = .ok (.pointer (some ⟨g, j, none⟩)) wx := fun wx => by
        have := run_indexAt_slice wx 24 4 1 Try.underlying24 infoB1 g 0 n n j hlt
        rwa [Nat.zero_add, Nat.mul_one] at this
      have hl := hown.1
      obtain ⟨u, hu⟩ : ∃ u, wr.cell? ⟨g, j, none⟩ = some u := ⟨_, by rw [hown.cellAt j (by omega), List.getElem?_eq_getElem (by omega)]⟩
      have hfz := hown.frozenAt j
      have hgq := (hown.lt g rfl).1
      have HST := hide (fun t : Bool => hown.stored j (.bool t))
      have HW := hide hwi
      clear hown hl hwi
      go_wp2_with fail
      go_roundw
      case rel => exact ⟨j + 1, _, by go_num, by go_num, by omega, (HST.out _).1, HW.out.trans (Within.row (lo := lo) (hi := hi) (row := some g) (HST.out _).2 (fun z hz => by cases hz; exact ⟨hgq, hg⟩))⟩
      case measure => simp [intOf]; omega
    · have HW := hide hwi
      clear hown hwi
      go_wp2_with fail
      go_ret
      exact ⟨k0 + j, rfl, by omega, HW.out⟩

end Go.Proofs.Ythieilmjbefamaa
