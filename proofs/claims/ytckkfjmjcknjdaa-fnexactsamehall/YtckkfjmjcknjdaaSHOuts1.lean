/-
  Walks and mathematics of Outs1.
-/
import Derived.Test.YtckkfjmjcknjdaaSHRoomW2
namespace Go.Proofs.Ytckkfjmjcknjdaa.P1
end Go.Proofs.Ytckkfjmjcknjdaa.P1
namespace Go.Proofs.Ytckkfjmjcknjdaa.P11
end Go.Proofs.Ytckkfjmjcknjdaa.P11
namespace Go.Proofs.Ytckkfjmjcknjdaa.P14
end Go.Proofs.Ytckkfjmjcknjdaa.P14
namespace Go.Proofs.Ytckkfjmjcknjdaa.P3
end Go.Proofs.Ytckkfjmjcknjdaa.P3
namespace Go.Proofs.Ytckkfjmjcknjdaa.P5
end Go.Proofs.Ytckkfjmjcknjdaa.P5
namespace Go.Proofs.Ytckkfjmjcknjdaa
open Go.RowKit P1 P3 P5 P9 P11 P12 P14 K
set_option linter.unusedVariables false
set_option linter.unusedSimpArgs false

structure OutX where
  d : Int
  a : Int
  ids : List Int

structure OutR where
  d : Int
  a : Int
  oa : Option Addr
  n : Nat
  cap : Nat

def ocells (r : OutR) : List Value := [.int .i64 r.d, .int .i64 r.a, .slice r.oa r.n r.cap]

theorem ocells_length (r : OutR) : (ocells r).length = 3 := rfl

abbrev outv (d a : Int) (v : Value) : Value := .agg #[.int .i64 d, .int .i64 a, v]

structure OutIs (w : World) (r : OutR) (x : OutX) : Prop where
  d : r.d = x.d
  a : r.a = x.a
  n : r.n = x.ids.length
  at_ : IntsAt w r.oa r.n r.cap x.ids

theorem OutIs.below {w w' : World} {r : OutR} {x : OutX} (h : OutIs w r x) (hb : Below w.heap.size w w') : OutIs w' r x := ⟨h.d, h.a, h.n, h.at_.below hb⟩

structure OutsAt (w : World) (oa : Option Addr) (n cap : Nat) (os : List OutX) : Prop where
  len : os.length = n
  row : ∃ rs : List OutR, RowsAt 3 ocells w oa n cap rs ∧ ∀ (i : Nat) (r : OutR) (x : OutX), rs[i]? = some r → os[i]? = some x → OutIs w r x

theorem OutsAt.below {w w' : World} {oa : Option Addr} {n cap : Nat} {os : List OutX} (h : OutsAt w oa n cap os) (hb : Below w.heap.size w w') : OutsAt w' oa n cap os := by
  obtain ⟨rs, h1, h2⟩ := h.row
  exact ⟨h.len, rs, h1.below hb, fun i r x hr hx => (h2 i r x hr hx).below hb⟩

theorem OutsAt.room {w : World} {oa : Option Addr} {n cap : Nat} {os : List OutX} (h : OutsAt w oa n cap os) : n ≤ cap ∧ cap ≤ maxLen := by
  obtain ⟨rs, h1, _⟩ := h.row
  exact ⟨h1.room, h1.most⟩

theorem infoOI : (Try.prog.info? 48).map (·.size) = some 3 := by kernel_rfl

theorem infoOIz : (Try.prog.info? 48).map (fun i => (i.zero, i.size, i.bytes)) = some (some (.agg #[.int .i64 0, .int .i64 0, .slice none 0 0]), 3, 40) := by kernel_rfl

theorem infoOL : (Try.prog.info? 80).map (·.size) = some 3 := by kernel_rfl

theorem OutsAt.get {w : World} {oa : Option Addr} {n cap : Nat} {os : List OutX} (h : OutsAt w oa n cap os) {P : Program} {t e : TypeId} (ht : P.underlying t = some (.slice e)) (hi : (P.info? e).map (·.size) = some 3) (i : Nat) (hin : i < n) :
    ∃ x xa xc b q, os[i]? = some x ∧ (∀ wx, (Instr.indexAt t (.slice oa n cap) (.int .i64 (i : Int))).run P wx = .ok (.pointer (some ⟨b, q, none⟩)) wx) ∧ b < w.heap.size ∧ w.cell? ⟨b, q, none⟩ = some (.int .i64 x.d) ∧ w.cell? ⟨b, q + 1, none⟩ = some (.int .i64 x.a) ∧ w.cell? ⟨b, q + 2, none⟩ = some (.slice xa x.ids.length xc) ∧ IntsAt w xa x.ids.length xc x.ids := by
  obtain ⟨rs, h1, h2⟩ := h.row
  obtain ⟨r, b, q, hr, hidx, hb, hc⟩ := h1.get ht hi ocells_length (by omega) i hin
  obtain ⟨x, hx⟩ : ∃ x, os[i]? = some x := ⟨_, List.getElem?_eq_getElem (by rw [h.len]; exact hin)⟩
  have his := h2 i r x hr hx
  have c0 := hc 0 _ rfl
  have c1 := hc 1 _ rfl
  have c2 := hc 2 _ rfl
  have hat := his.at_
  rw [his.n] at c2 hat
  rw [his.d] at c0
  rw [his.a] at c1
  exact ⟨x, r.oa, r.cap, b, q, hx, hidx, hb, c0, c1, c2, hat⟩

def idW (os : List OutX) : Nat := (os.map fun x => x.ids.length).sum

theorem idW_take {os : List OutX} {j : Nat} {s : OutX} (h : os[j]? = some s) : idW (os.take (j + 1)) = idW (os.take j) + s.ids.length := by
  unfold idW
  rw [List.take_add_one, h]
  simp

theorem idW_mem : ∀ {os : List OutX} {s : OutX}, s ∈ os → s.ids.length ≤ idW os
  | x :: r, s, h => by
    unfold idW
    rw [List.map_cons, List.sum_cons]
    rcases List.mem_cons.1 h with rfl | h
    · omega
    · have := idW_mem h
      unfold idW at this
      omega

set_option maxHeartbeats 1000000 in
theorem szOut_any (d a : Int) (oa : Option Addr) (n cap : Nat) (hn : n ≤ maxLen) (left : Int) (h0 : 0 ≤ left) (h1 : left ≤ 1048576) (w : World) :
    Calls Try.prog 53 #[outv d a (.slice oa n cap), .int .i64 left] w fun e w' => e = .returned (.int .i64 (if left - n < 0 then -1 else left - n)) ∧ Below w.heap.size w w' := by
  have HS := hide (fun w => szIntE_any oa n cap hn left h0 h1 w)
  have HB0 := hide ((Below.refl w.heap.size w).alloc (Nat.le_refl _) (.cells #[.int .i64 d, .int .i64 a, .slice oa n cap] 80))
  by_cases c : left - n < 0
  · rw [if_pos c] at HS ⊢
    go_enter Try.func53, Try.ntmps53
    go_wp2_with (go_at_call 74; refine (HS.out _).mono ?_; rintro e w1 ⟨rfl, rfl⟩)
    go_ret
    exact ⟨rfl, HB0.out⟩
  · rw [if_neg c] at HS ⊢
    generalize left - (n : Int) = y at HS c ⊢
    go_enter Try.func53, Try.ntmps53
    go_wp2_with (go_at_call 74; refine (HS.out _).mono ?_; rintro e w1 ⟨rfl, rfl⟩)
    go_ret
    exact ⟨rfl, HB0.out⟩

def SzO (w : World) (os : List OutX) (left : Int) (e : Ending) (w' : World) : Prop := ∃ z : Int, e = .returned (.int .i64 z) ∧ z ≤ left ∧ (0 ≤ z → z + (idW os : Int) + (os.length : Int) = left) ∧ Below w.heap.size w w'

set_option maxHeartbeats 2000000 in
theorem szOutS_any (oa : Option Addr) (n cap : Nat) (os : List OutX) (left : Int) (h0 : 0 ≤ left) (h1 : left ≤ 1048576) (w : World) (hat : OutsAt w oa n cap os) :
    Calls Try.prog 25 #[.slice oa n cap, .int .i64 left] w (SzO w os left) := by
  have hn := hat.len
  have hmx := Nat.le_trans hat.room.1 hat.room.2
  unfold maxLen at hmx
  by_cases c1 : left - n < 0
  · go_enter Try.func25, Try.ntmps25
    go_wp2_with fail
    go_ret
    exact ⟨-1, rfl, by omega, fun h => by omega, Below.refl _ _⟩
  · have HN := hide hn
    have HAT := hide hat
    clear hn hat
    go_enter Try.func25, Try.ntmps25
    go_wp2_with fail
    go_loopw [5, 1] (fun i l wr => ∃ (j : Nat) (x : Int), i = .int .i64 (j : Int) ∧ l = .int .i64 x ∧ j ≤ n ∧ 0 ≤ x ∧ x ≤ left ∧ x + (idW (os.take j) : Int) + (n : Int) = left ∧ Below w.heap.size w wr) (fun i _ _ => n - (intOf i).toNat)
    case atStart => exact ⟨0, left - n, rfl, rfl, Nat.zero_le _, by omega, by omega, by simp [idW], Below.refl _ _⟩
    case round =>
      obtain ⟨j, x, rfl, rfl, hj, hx0, hx1, hsum, hbel⟩ := hrel
      have HSUM := hide hsum
      have hsz := hbel.size
      clear hsum
      by_cases hlt : j < n
      · have j0 : (j : Int) < (n : Int) := by omega
        obtain ⟨s, xa, xc, b, q, hs, hidx, hb, k0, k1, k2, hits⟩ := (HAT.out.below hbel).get Try.underlying40 infoOL j hlt
        have HC := hide (fun w => szOut_any s.d s.a xa s.ids.length xc (Nat.le_trans hits.room hits.most) x hx0 (by omega) w)
        have HT := hide (idW_take hs)
        have hsl := Nat.le_trans hits.room hits.most
        unfold maxLen at hsl
        clear hits hs
        by_cases c2 : x - s.ids.length < 0
        · rw [if_pos c2] at HC
          go_wp2_with fail
          refine (HC.out _).mono ?_
          rintro e' w2 ⟨rfl, hb2⟩
          go_wp2_with fail
          go_ret
          exact ⟨-1, rfl, by omega, fun h => by omega, hbel.trans (hb2.mono hsz)⟩
        · rw [if_neg c2] at HC
          have HS2 := hide (show x - (s.ids.length : Int) + (idW (os.take (j + 1)) : Int) + (n : Int) = left by
            have := HSUM.out
            rw [HT.out]
            omega)
          have hx2 : 0 ≤ x - (s.ids.length : Int) := by omega
          have hx3 : x - (s.ids.length : Int) ≤ left := by omega
          generalize x - (s.ids.length : Int) = y at HC HS2 hx2 hx3
          have g2 : ¬ y < 0 := by omega
          clear HT c2
          go_wp2_with fail
          refine (HC.out _).mono ?_
          rintro e' w2 ⟨rfl, hb2⟩
          have hb3 := hbel.trans (hb2.mono hsz)
          clear hb2
          go_wp2_with fail
          go_roundw
          case rel => exact ⟨j + 1, y, by go_num, rfl, by omega, hx2, hx3, HS2.out, hb3⟩
          case measure => simp [intOf]; omega
      · have HE := hide (show os.take j = os from List.take_of_length_le (by rw [HN.out]; omega))
        go_wp2_with fail
        go_ret
        refine ⟨x, rfl, hx1, fun _ => ?_, hbel⟩
        have := HSUM.out
        rw [HE.out] at this
        rw [HN.out]
        exact this

def ToOut (w : World) (d a : Int) (n : Nat) (zs : List Int) (e : Ending) (w' : World) : Prop :=
  ∃ g, e = .returned (outv d a (.slice (some ⟨g, 0, none⟩) n n)) ∧ w'.ownsRow w.heap.size 3 1 (.slice (some ⟨g, 0, none⟩) n n) n (zs.map icell) ∧ Below w.heap.size w w'

set_option maxHeartbeats 1000000 in
theorem toOut_any (d a : Int) (oa : Option Addr) (n cap : Nat) (zs : List Int) (hn20 : n ≤ 1048576) (w : World) (hat : IntsAt w oa n cap zs) :
    Calls Try.prog 60 #[outv d a (.slice oa n cap)] w fun e w' => ToOut w d a n zs e w' := by
  have hb1 := (((Below.refl w.heap.size w).alloc (Nat.le_refl _) (.cells #[.int .i64 d, .int .i64 a, .slice oa n cap] 80)).alloc (by simp) (.cells #[.int .i64 0, .int .i64 0, .slice none 0 0] 48)).alloc (by simp; omega) (.cells #[.int .i64 d, .int .i64 a, .slice none 0 0] 48)
  have HTO := hide (toIntS_any oa n cap zs hn20 _ (hat.below hb1))
  have HB1 := hide hb1
  clear hat hb1
  go_enter Try.func60, Try.ntmps60
  go_wp2_with fail
  refine HTO.out.mono ?_
  rintro e w2 ⟨g, rfl, hown, hb2⟩
  have k0 := hb2.cell (p := ⟨w.heap.size + 1 + 1, 0, none⟩) (by simp)
  have k1 := hb2.cell (p := ⟨w.heap.size + 1 + 1, 1, none⟩) (by simp)
  have k2 := hb2.cell (p := ⟨w.heap.size + 1 + 1, 2, none⟩) (by simp)
  have q2 := hb2.frozen (p := ⟨w.heap.size + 1 + 1, 2, none⟩) (by simp)
  have r0 := hb2.cell (p := ⟨w.heap.size + 1, 0, none⟩) (by simp)
  have r1 := hb2.cell (p := ⟨w.heap.size + 1, 1, none⟩) (by simp)
  have r2 := hb2.cell (p := ⟨w.heap.size + 1, 2, none⟩) (by simp)
  have t0 := hb2.frozen (p := ⟨w.heap.size + 1, 0, none⟩) (by simp)
  have t1 := hb2.frozen (p := ⟨w.heap.size + 1, 1, none⟩) (by simp)
  have t2 := hb2.frozen (p := ⟨w.heap.size + 1, 2, none⟩) (by simp)
  have HO := hide hown
  have HB2 := hide hb2
  clear hown hb2
  go_wp2_with fail
  refine bodyPost_ret (v := outv d a (.slice (some ⟨g, 0, none⟩) n n)) (by simp [results, Try.results60, go_sem, k0, k1, k2, q2, r0, r1, r2, t0, t1, t2]) rfl ⟨g, rfl, ?_, ?_⟩
  · refine own_base (base := w.heap.size + 1 + 1 + 1) ?_ (by omega)
    have := HO.out
    simp at this
    repeat (refine own_setCell ?_ (by simp <;> omega) _)
    exact this
  · repeat (refine Below.setCell ?_ (by simp <;> omega) _)
    exact HB1.out.trans (HB2.out.mono (by simp; omega))

set_option maxHeartbeats 1000000 in
theorem eqOut_same (d a : Int) (oa : Option Addr) (n cap : Nat) (ob : Option Addr) (cap' : Nat) (zs : List Int) (hn20 : n ≤ 1048576) (w : World) (hat : IntsAt w oa n cap zs) (hbt : IntsAt w ob n cap' zs) :
    Calls Try.prog 39 #[outv d a (.slice oa n cap), outv d a (.slice ob n cap')] w fun e w' => e = .returned (.bool true) ∧ Below w.heap.size w w' := by
  have hb0 := ((Below.refl w.heap.size w).alloc (Nat.le_refl _) (.cells #[.int .i64 d, .int .i64 a, .slice oa n cap] 48)).alloc (by simp) (.cells #[.int .i64 d, .int .i64 a, .slice ob n cap'] 48)
  have HE := hide (eqIntS_same oa n cap ob cap' zs hn20 _ (hat.below hb0) (hbt.below hb0))
  have HB0 := hide hb0
  clear hat hbt hb0
  go_enter Try.func39, Try.ntmps39
  go_wp2_with fail
  refine HE.out.mono ?_
  rintro e w1 ⟨rfl, hb1⟩
  go_wp2_with fail
  go_ret
  exact ⟨rfl, HB0.out.trans (hb1.mono (by simp; omega))⟩

end Go.Proofs.Ytckkfjmjcknjdaa
