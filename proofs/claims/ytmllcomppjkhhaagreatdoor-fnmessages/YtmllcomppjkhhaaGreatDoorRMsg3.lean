/-
  Walks and mathematics of Msg3, Msg4.
-/
import Derived.Test.YtmllcomppjkhhaaGreatDoorRMsgA
import Derived.Test.YtmllcomppjkhhaaGreatDoorRMsg1
import Derived.Laws.StructEq
import Derived.ChangeKeysEq
import Derived.Test.YtmllcomppjkhhaaGreatDoorRLog1
namespace Go.Proofs.YtmllcomppjkhhaaGreatDoor.P18
end Go.Proofs.YtmllcomppjkhhaaGreatDoor.P18
namespace Go.Proofs.YtmllcomppjkhhaaGreatDoor.P3
end Go.Proofs.YtmllcomppjkhhaaGreatDoor.P3
namespace Go.Proofs.YtmllcomppjkhhaaGreatDoor
open Go.RowKit P1 P3 P9 P11 P12 P18 K
set_option linter.unusedVariables false
set_option linter.unusedSimpArgs false

abbrev nv7 (a b c d e f g : Int) : Value := .agg #[.int .i64 a, .int .i64 b, .int .i64 c, .int .i64 d, .int .i64 e, .int .i64 f, .int .i64 g]

abbrev pv4 (a b c d : Bool) : Value := .agg #[.bool a, .bool b, .bool c, .bool d]

set_option maxHeartbeats 1000000 in
theorem numbers_any15 (kd fr to tm ix lt cm : Int) (ok : Bool) (oa : Option Addr) (n cl : Nat) (ob : Option Addr) (m cp : Nat) (da : List UInt8) (la : Bool) (w : World) :
    Calls Tryz.prog 22 #[(mgval kd fr to tm ix lt cm ok (.slice oa n cl) (.slice ob m cp) da la)] w fun e w' => e = .returned (nv7 kd fr to tm ix lt cm) ∧ Below w.heap.size w w' := by
  have HB := hide (((Below.refl w.heap.size w).alloc (Nat.le_refl _) (.cells #[.int .i64 kd, .int .i64 fr, .int .i64 to, .int .i64 tm, .int .i64 ix, .int .i64 lt, .int .i64 cm, .bool ok, .slice oa n cl, .slice ob m cp, .string ⟨da.toArray⟩, .bool la] 27)).alloc (by simp) (.cells #[.int .i64 kd, .int .i64 fr, .int .i64 to, .int .i64 tm, .int .i64 ix, .int .i64 lt, .int .i64 cm] 59))
  go_enter Tryz.func22, Tryz.ntmps22
  go_wp2_with fail
  refine bodyPost_ret (v := nv7 kd fr to tm ix lt cm) (by simp [results, Tryz.results22, go_sem]) rfl ⟨rfl, ?_⟩
  repeat (refine Below.setCell ?_ (by simp) _)
  exact HB.out

def hasP (n : Nat) : Bool := decide ((n : Int) > 0)

theorem hasP_no {n : Nat} : hasP n = !decide (n = 0) := by unfold hasP; by_cases c : n = 0 <;> simp [c]; omega

set_option maxHeartbeats 1000000 in
theorem parts_any15 (kd fr to tm ix lt cm : Int) (ok : Bool) (oa : Option Addr) (n cl : Nat) (ob : Option Addr) (m cp : Nat) (da : List UInt8) (la : Bool) (hn : n ≤ 1048576) (hm : m ≤ 1048576) (w : World) :
    Calls Tryz.prog 23 #[(mgval kd fr to tm ix lt cm ok (.slice oa n cl) (.slice ob m cp) da la)] w fun e w' => e = .returned (pv4 (!decide (n = 0)) (!decide (m = 0)) (!decide (da.length = 0)) la) ∧ Below w.heap.size w w' := by
  have HB0 := hide ((Below.refl w.heap.size w).alloc (Nat.le_refl _) (.cells #[.int .i64 kd, .int .i64 fr, .int .i64 to, .int .i64 tm, .int .i64 ix, .int .i64 lt, .int .i64 cm, .bool ok, .slice oa n cl, .slice ob m cp, .string ⟨da.toArray⟩, .bool la] 27))
  go_enter Tryz.func23, Tryz.ntmps23
  go_wp2_with fail
  refine bodyPost_ret (v := pv4 (!decide (n = 0)) (!decide (m = 0)) (!decide (da.length = 0)) la) ?_ rfl ⟨rfl, ?_⟩
  · rw [← hasP_no, ← hasP_no]
    unfold hasP
    simp [results, Tryz.results23, go_sem]
    try (cases da <;> simp)
  · repeat (refine Below.setCell ?_ (by simp) _)
    exact HB0.out.alloc (by simp) _

theorem xs7 {h : Nat} {c0 c1 c2 c3 c4 c5 c6 : Value} {T : TypeId} {w : World} (k : XS h #[c0, c1, c2, c3, c4, c5, c6] T w) : w.cell? ⟨h, 0, none⟩ = some c0 ∧ w.cell? ⟨h, 1, none⟩ = some c1 ∧ w.cell? ⟨h, 2, none⟩ = some c2 ∧ w.cell? ⟨h, 3, none⟩ = some c3 ∧ w.cell? ⟨h, 4, none⟩ = some c4 ∧ w.cell? ⟨h, 5, none⟩ = some c5 ∧ w.cell? ⟨h, 6, none⟩ = some c6 :=
  ⟨k.cell 0 rfl, k.cell 1 rfl, k.cell 2 rfl, k.cell 3 rfl, k.cell 4 rfl, k.cell 5 rfl, k.cell 6 rfl⟩

theorem sets7 {w : World} {b : Nat} {T : TypeId} {c0 c1 c2 c3 c4 c5 c6 : Value} (h : XS b #[c0, c1, c2, c3, c4, c5, c6] T w) (v0 v1 v2 v3 v4 v5 v6 : Value) : ∃ W', (((((((w.setCell ⟨b, 0, none⟩ (v0)).setCell ⟨b, 1, none⟩ (v1)).setCell ⟨b, 2, none⟩ (v2)).setCell ⟨b, 3, none⟩ (v3)).setCell ⟨b, 4, none⟩ (v4)).setCell ⟨b, 5, none⟩ (v5)).setCell ⟨b, 6, none⟩ (v6)) = W' ∧ XS b #[v0, v1, v2, v3, v4, v5, v6] T W' ∧ w.grownBy W' (some b) := by
  have g0 := h
  have g1 : XS b #[v0, c1, c2, c3, c4, c5, c6] T ((w.setCell ⟨b, 0, none⟩ (v0))) := g0.set 0 v0
  have g2 : XS b #[v0, v1, c2, c3, c4, c5, c6] T (((w.setCell ⟨b, 0, none⟩ (v0)).setCell ⟨b, 1, none⟩ (v1))) := g1.set 1 v1
  have g3 : XS b #[v0, v1, v2, c3, c4, c5, c6] T ((((w.setCell ⟨b, 0, none⟩ (v0)).setCell ⟨b, 1, none⟩ (v1)).setCell ⟨b, 2, none⟩ (v2))) := g2.set 2 v2
  have g4 : XS b #[v0, v1, v2, v3, c4, c5, c6] T (((((w.setCell ⟨b, 0, none⟩ (v0)).setCell ⟨b, 1, none⟩ (v1)).setCell ⟨b, 2, none⟩ (v2)).setCell ⟨b, 3, none⟩ (v3))) := g3.set 3 v3
  have g5 : XS b #[v0, v1, v2, v3, v4, c5, c6] T ((((((w.setCell ⟨b, 0, none⟩ (v0)).setCell ⟨b, 1, none⟩ (v1)).setCell ⟨b, 2, none⟩ (v2)).setCell ⟨b, 3, none⟩ (v3)).setCell ⟨b, 4, none⟩ (v4))) := g4.set 4 v4
  have g6 : XS b #[v0, v1, v2, v3, v4, v5, c6] T (((((((w.setCell ⟨b, 0, none⟩ (v0)).setCell ⟨b, 1, none⟩ (v1)).setCell ⟨b, 2, none⟩ (v2)).setCell ⟨b, 3, none⟩ (v3)).setCell ⟨b, 4, none⟩ (v4)).setCell ⟨b, 5, none⟩ (v5))) := g5.set 5 v5
  have g7 : XS b #[v0, v1, v2, v3, v4, v5, v6] T ((((((((w.setCell ⟨b, 0, none⟩ (v0)).setCell ⟨b, 1, none⟩ (v1)).setCell ⟨b, 2, none⟩ (v2)).setCell ⟨b, 3, none⟩ (v3)).setCell ⟨b, 4, none⟩ (v4)).setCell ⟨b, 5, none⟩ (v5)).setCell ⟨b, 6, none⟩ (v6))) := g6.set 6 v6
  exact ⟨_, rfl, g7, grown_trans (grown_trans (grown_trans (grown_trans (grown_trans (grown_trans (blk_grown _ _ _ _) (blk_grown _ _ _ _)) (blk_grown _ _ _ _)) (blk_grown _ _ _ _)) (blk_grown _ _ _ _)) (blk_grown _ _ _ _)) (blk_grown _ _ _ _)⟩

theorem xs4 {h : Nat} {c0 c1 c2 c3 : Value} {T : TypeId} {w : World} (k : XS h #[c0, c1, c2, c3] T w) : w.cell? ⟨h, 0, none⟩ = some c0 ∧ w.cell? ⟨h, 1, none⟩ = some c1 ∧ w.cell? ⟨h, 2, none⟩ = some c2 ∧ w.cell? ⟨h, 3, none⟩ = some c3 :=
  ⟨k.cell 0 rfl, k.cell 1 rfl, k.cell 2 rfl, k.cell 3 rfl⟩

theorem sets4 {w : World} {b : Nat} {T : TypeId} {c0 c1 c2 c3 : Value} (h : XS b #[c0, c1, c2, c3] T w) (v0 v1 v2 v3 : Value) : ∃ W', ((((w.setCell ⟨b, 0, none⟩ (v0)).setCell ⟨b, 1, none⟩ (v1)).setCell ⟨b, 2, none⟩ (v2)).setCell ⟨b, 3, none⟩ (v3)) = W' ∧ XS b #[v0, v1, v2, v3] T W' ∧ w.grownBy W' (some b) := by
  have g0 := h
  have g1 : XS b #[v0, c1, c2, c3] T ((w.setCell ⟨b, 0, none⟩ (v0))) := g0.set 0 v0
  have g2 : XS b #[v0, v1, c2, c3] T (((w.setCell ⟨b, 0, none⟩ (v0)).setCell ⟨b, 1, none⟩ (v1))) := g1.set 1 v1
  have g3 : XS b #[v0, v1, v2, c3] T ((((w.setCell ⟨b, 0, none⟩ (v0)).setCell ⟨b, 1, none⟩ (v1)).setCell ⟨b, 2, none⟩ (v2))) := g2.set 2 v2
  have g4 : XS b #[v0, v1, v2, v3] T (((((w.setCell ⟨b, 0, none⟩ (v0)).setCell ⟨b, 1, none⟩ (v1)).setCell ⟨b, 2, none⟩ (v2)).setCell ⟨b, 3, none⟩ (v3))) := g3.set 3 v3
  exact ⟨_, rfl, g4, grown_trans (grown_trans (grown_trans (blk_grown _ _ _ _) (blk_grown _ _ _ _)) (blk_grown _ _ _ _)) (blk_grown _ _ _ _)⟩

def near15 (i : Nat) (z : Int) : Int := nearI z (leasts.getD i 0) (mosts.getD i 0)

def limA (a b c d e f g : Int) (j : Nat) : Array Value := #[.int .i64 (if 0 < j then near15 0 a else a), .int .i64 (if 1 < j then near15 1 b else b), .int .i64 (if 2 < j then near15 2 c else c), .int .i64 (if 3 < j then near15 3 d else d), .int .i64 (if 4 < j then near15 4 e else e), .int .i64 (if 5 < j then near15 5 f else f), .int .i64 (if 6 < j then near15 6 g else g)]

theorem limA_at (a b c d e f g : Int) (j : Nat) (h : j < 7) : ∃ z, (limA a b c d e f g j)[j]? = some (.int .i64 z) ∧ (limA a b c d e f g j).setIfInBounds j (.int .i64 (near15 j z)) = limA a b c d e f g (j + 1) := by
  rcases (show j = 0 ∨ j = 1 ∨ j = 2 ∨ j = 3 ∨ j = 4 ∨ j = 5 ∨ j = 6 by omega) with rfl | rfl | rfl | rfl | rfl | rfl | rfl
  · exact ⟨a, rfl, rfl⟩
  · exact ⟨b, rfl, rfl⟩
  · exact ⟨c, rfl, rfl⟩
  · exact ⟨d, rfl, rfl⟩
  · exact ⟨e, rfl, rfl⟩
  · exact ⟨f, rfl, rfl⟩
  · exact ⟨g, rfl, rfl⟩

theorem lims_le (j : Nat) (h : j < 7) : leasts.getD j 0 ≤ mosts.getD j 0 := by
  rcases (show j = 0 ∨ j = 1 ∨ j = 2 ∨ j = 3 ∨ j = 4 ∨ j = 5 ∨ j = 6 by omega) with rfl | rfl | rfl | rfl | rfl | rfl | rfl <;> decide

def lim7 (a b c d e f g : Int) : Value := nv7 (nearI a 1 6) (nearI b 1 4) (nearI c 1 4) (nearI d 0 100000) (nearI e 0 1000000) (nearI f 0 100000) (nearI g 0 1000000)

theorem limA_end (a b c d e f g : Int) : limA a b c d e f g 7 = #[.int .i64 (nearI a 1 6), .int .i64 (nearI b 1 4), .int .i64 (nearI c 1 4), .int .i64 (nearI d 0 100000), .int .i64 (nearI e 0 1000000), .int .i64 (nearI f 0 100000), .int .i64 (nearI g 0 1000000)] := rfl

structure LmS (w : World) (cs : Array Value) (w' : World) : Prop where
  x : XS w.heap.size cs 59 w'
  z : XS (w.heap.size + 1) #[.int .i64 0, .int .i64 0, .int .i64 0, .int .i64 0, .int .i64 0, .int .i64 0, .int .i64 0] 59 w'
  b : Below w.heap.size w w'
  t : LimIs w'

theorem LmS.drew {w w' : World} {cs : Array Value} (h : LmS w cs w') : LmS w cs w'.drew := ⟨h.x.drew, h.z.drew, h.b.drew, h.t.on (Below.refl _ _).drew⟩

theorem LimIs.low {w w' : World} (h : LimIs w) (hb : Below w.heap.size w w') {w2 : World} (hb2 : Below w.heap.size w' w2) : LimIs w2 := h.on (hb.trans hb2)

set_option maxRecDepth 100000 in
set_option maxHeartbeats 4000000 in
theorem limited_any15 (a b c d e f g : Int) (w : World) (ht : LimIs w) :
    Calls Tryz.prog 24 #[nv7 a b c d e f g] w fun r w' => r = .returned (lim7 a b c d e f g) ∧ Below w.heap.size w w' := by
  have H0 := hide (show LmS w (limA a b c d e f g 0) ((w.alloc (.cells #[.int .i64 a, .int .i64 b, .int .i64 c, .int .i64 d, .int .i64 e, .int .i64 f, .int .i64 g] 59)).alloc (.cells #[.int .i64 0, .int .i64 0, .int .i64 0, .int .i64 0, .int .i64 0, .int .i64 0, .int .i64 0] 59)) by
    have k1 := (Below.refl w.heap.size w).alloc (Nat.le_refl _) (.cells #[.int .i64 a, .int .i64 b, .int .i64 c, .int .i64 d, .int .i64 e, .int .i64 f, .int .i64 g] 59)
    have k2 := k1.alloc (by simp) (.cells #[.int .i64 0, .int .i64 0, .int .i64 0, .int .i64 0, .int .i64 0, .int .i64 0, .int .i64 0] 59)
    have e2 := XS.new (w.alloc (.cells #[.int .i64 a, .int .i64 b, .int .i64 c, .int .i64 d, .int .i64 e, .int .i64 f, .int .i64 g] 59)) #[.int .i64 0, .int .i64 0, .int .i64 0, .int .i64 0, .int .i64 0, .int .i64 0, .int .i64 0] 59
    rw [World.size_alloc] at e2
    exact ⟨(XS.new w _ _).alloc _, e2, k2, ht.on k2⟩)
  have HT0 := hide ht
  clear ht
  go_enter Tryz.func24, Tryz.ntmps24
  go_wp2_with fail
  generalize (w.alloc (.cells #[.int .i64 a, .int .i64 b, .int .i64 c, .int .i64 d, .int .i64 e, .int .i64 f, .int .i64 g] 59)).alloc (.cells #[.int .i64 0, .int .i64 0, .int .i64 0, .int .i64 0, .int .i64 0, .int .i64 0, .int .i64 0] 59) = w0 at H0 ⊢
  go_loopw [4] (fun i wr => ∃ (j : Nat), i = .int .i64 (j : Int) ∧ j ≤ 7 ∧ LmS w (limA a b c d e f g j) wr) (fun i _ => 7 - (intOf i).toNat)
  case atStart => exact ⟨0, rfl, by omega, H0.out⟩
  case round =>
    obtain ⟨j, rfl, hj, hS⟩ := hrel
    by_cases hlt : j < 7
    · have j0 : (j : Int) < 7 := by omega
      obtain ⟨z, hz, hst⟩ := limA_at a b c d e f g j hlt
      have hN := hide (nearest_any z (leasts.getD j 0) (mosts.getD j 0) (lims_le j hlt))
      have dz := hS.x.drew.cell j hz
      have dl := (hS.t.on (Below.refl _ _).drew).lc j hlt
      have dm := (hS.t.on (Below.refl _ _).drew).mc j hlt
      have df := hS.x.drew.free j
      have HR := hide (show LmS w (limA a b c d e f g (j + 1)) (wr.setCell ⟨w.heap.size, j, none⟩ (.int .i64 (near15 j z))).drew from by
        refine LmS.drew ⟨?_, hS.z.kept (blk_grown _ _ _ _) (fun q => by have := Option.some.inj q; omega), hS.b.setCell (by simp) _, HT0.out.on (hS.b.setCell (p := ⟨w.heap.size, j, none⟩) (by simp) _)⟩
        rw [← hst]
        exact hS.x.set j _)
      unfold near15 at HR
      clear hS hz hst
      generalize leasts.getD j 0 = lo at hN dl HR
      generalize mosts.getD j 0 = hi at hN dm HR
      generalize nearI z lo hi = nz at hN HR
      go_wp2_with fail
      go_region_law (first | (rw [if_pos (by rfl)]; go_simp; go_at_call 55; refine (hN.out _).mono ?_; rintro e w2 ⟨rfl, rfl⟩))
      all_goals
        go_wp2_with fail
        go_roundw
        case rel => exact ⟨j + 1, by go_num, by omega, HR.out⟩
        case measure => simp [intOf]; omega
    · have hjn : j = 7 := by omega
      subst hjn
      rw [limA_end] at hS
      have HS := hide hS
      obtain ⟨k0, k1, k2, k3, k4, k5, k6⟩ := xs7 HS.out.x
      obtain ⟨y0, y1, y2, y3, y4, y5, y6⟩ := xs7 HS.out.z
      have f0 := HS.out.z.free 0
      have f1 := HS.out.z.free 1
      have f2 := HS.out.z.free 2
      have f3 := HS.out.z.free 3
      have f4 := HS.out.z.free 4
      have f5 := HS.out.z.free 5
      have f6 := HS.out.z.free 6
      clear hS
      go_wp2_with fail
      obtain ⟨w6, hw6, hR6, hg6⟩ := sets7 HS.out.z (.int .i64 (nearI a 1 6)) (.int .i64 (nearI b 1 4)) (.int .i64 (nearI c 1 4)) (.int .i64 (nearI d 0 100000)) (.int .i64 (nearI e 0 1000000)) (.int .i64 (nearI f 0 100000)) (.int .i64 (nearI g 0 1000000))
      rw [hw6]
      obtain ⟨r0, r1, r2, r3, r4, r5, r6⟩ := xs7 hR6
      refine bodyPost_ret (v := lim7 a b c d e f g) (by simp [results, Tryz.results24, go_sem, lim7, r0, r1, r2, r3, r4, r5, r6]) rfl ⟨rfl, ?_⟩
      exact HS.out.b.grown hg6 HS.out.b.size (fun k hk => by cases hk; omega)

end Go.Proofs.YtmllcomppjkhhaaGreatDoor

namespace Go.Proofs.YtmllcomppjkhhaaGreatDoor
open Go.RowKit P1 P3 P9 P11 P12 P18 K
set_option linter.unusedVariables false
set_option linter.unusedSimpArgs false

def ofP (kd : Int) (a b c d : Bool) : Value := if kd = 3 then pv4 a false false false else if kd = 5 then pv4 false b c d else pv4 false false false false

set_option maxHeartbeats 1000000 in
theorem of_any15 (kd : Int) (a b c d : Bool) (w : World) :
    Calls Tryz.prog 25 #[pv4 a b c d, .int .i64 kd] w fun e w' => e = .returned (ofP kd a b c d) ∧ Below w.heap.size w w' := by
  have HB := hide (((Below.refl w.heap.size w).alloc (Nat.le_refl _) (.cells #[.bool a, .bool b, .bool c, .bool d] 62)).alloc (by simp) (.cells #[.bool false, .bool false, .bool false, .bool false] 62))
  unfold ofP
  by_cases k3 : kd = 3
  · subst k3
    rw [if_pos rfl]
    go_enter Tryz.func25, Tryz.ntmps25
    go_wp2_with fail
    refine bodyPost_ret (v := pv4 a false false false) (by simp [results, Tryz.results25, go_sem]) rfl ⟨rfl, ?_⟩
    repeat (refine Below.setCell ?_ (by simp) _)
    first | exact HB.out | exact ((Below.refl w.heap.size w).alloc (Nat.le_refl _) _).alloc (by simp) _
  · rw [if_neg k3]
    have g3 : (kd == 3) = false := by simpa using k3
    by_cases k5 : kd = 5
    · subst k5
      rw [if_pos rfl]
      go_enter Tryz.func25, Tryz.ntmps25
      go_wp2_with fail
      refine bodyPost_ret (v := pv4 false b c d) (by simp [results, Tryz.results25, go_sem]) rfl ⟨rfl, ?_⟩
      repeat (refine Below.setCell ?_ (by simp) _)
      first | exact HB.out | exact ((Below.refl w.heap.size w).alloc (Nat.le_refl _) _).alloc (by simp) _
    · rw [if_neg k5]
      have g5 : (kd == 5) = false := by simpa using k5
      go_enter Tryz.func25, Tryz.ntmps25
      go_wp2_with fail
      refine bodyPost_ret (v := pv4 false false false false) (by simp [results, Tryz.results25, go_sem]) rfl ⟨rfl, ?_⟩
      repeat (refine Below.setCell ?_ (by simp) _)
      first | exact HB.out | exact ((Below.refl w.heap.size w).alloc (Nat.le_refl _) _).alloc (by simp) _

theorem range7 : List.range 7 = [0, 1, 2, 3, 4, 5, 6] := rfl

theorem range4 : List.range 4 = [0, 1, 2, 3] := rfl

theorem nv_neq15 (a0 a1 a2 a3 a4 a5 a6 b0 b1 b2 b3 b4 b5 b6 : Int) (wx : World) : (binOp .neq 59 (nv7 a0 a1 a2 a3 a4 a5 a6) (nv7 b0 b1 b2 b3 b4 b5 b6)).run Tryz.prog wx = .ok (.bool (!(decide (a0 = b0) && (decide (a1 = b1) && (decide (a2 = b2) && (decide (a3 = b3) && (decide (a4 = b4) && (decide (a5 = b5) && decide (a6 = b6))))))))) wx := by
  have hu := Tryz.underlying3
  obtain ⟨i, hi⟩ : ∃ i, Tryz.prog.info? 3 = some i := by
    cases h : Tryz.prog.info? 3 with
    | some i => exact ⟨i, rfl⟩
    | none => have := infoI; rw [h] at this; cases this
  have hc : Tryz.prog.cellsOf 3 = 1 := by kernel_rfl
  rw [run_neq_struct, run_equalIn_array wx 9999 _ _ Tryz.underlying59 hi, hc, range7]
  simp [Op.eqItems, go_sem, hu]
  by_cases c0 : a0 = b0
  · by_cases c1 : a1 = b1
    · by_cases c2 : a2 = b2
      · by_cases c3 : a3 = b3
        · by_cases c4 : a4 = b4
          · by_cases c5 : a5 = b5
            · by_cases c6 : a6 = b6
              · simp [c0, c1, c2, c3, c4, c5, c6]
              · simp [c0, c1, c2, c3, c4, c5, c6]
            · simp [c0, c1, c2, c3, c4, c5]
          · simp [c0, c1, c2, c3, c4]
        · simp [c0, c1, c2, c3]
      · simp [c0, c1, c2]
    · simp [c0, c1]
  · simp [c0]

theorem nv_lim15 (kd fr to tm ix lt cm : Int) (ok la : Bool) (es : List EntV) (zs : List Int) (da : List UInt8) (wx : World) : (binOp .neq 59 (nv7 kd fr to tm ix lt cm) (lim7 kd fr to tm ix lt cm)).run Tryz.prog wx = .ok (.bool (!hdM (⟨kd, fr, to, tm, ix, lt, cm, ok, es, zs, da, la⟩ : MsgV))) wx := by
  unfold lim7
  rw [nv_neq15, nearI_eq (by decide), nearI_eq (by decide), nearI_eq (by decide), nearI_eq (by decide), nearI_eq (by decide), nearI_eq (by decide), nearI_eq (by decide)]
  rfl

theorem nv_guard15 (a b c d e f g : Int) (x y : Operand) (wx : World) : (eqGuard .neq 59 x y (nv7 a b c d e f g) (lim7 a b c d e f g)).run Tryz.prog wx = .ok () wx :=
  run_eqGuard_agg wx .neq _ x y _ _ (by kernel_rfl)

theorem pv_neq15 (a0 a1 a2 a3 b0 b1 b2 b3 : Bool) (wx : World) : (binOp .neq 62 (pv4 a0 a1 a2 a3) (pv4 b0 b1 b2 b3)).run Tryz.prog wx = .ok (.bool (!((a0 == b0) && ((a1 == b1) && ((a2 == b2) && (a3 == b3)))))) wx := by
  have hu := Tryz.underlying4
  obtain ⟨i, hi⟩ : ∃ i, Tryz.prog.info? 4 = some i := by
    cases h : Tryz.prog.info? 4 with
    | some i => exact ⟨i, rfl⟩
    | none => have : (Tryz.prog.info? 4).isSome = true := by kernel_rfl
              rw [h] at this; cases this
  have hc : Tryz.prog.cellsOf 4 = 1 := by kernel_rfl
  rw [run_neq_struct, run_equalIn_array wx 9999 _ _ Tryz.underlying62 hi, hc, range4]
  simp [Op.eqItems, go_sem, hu]
  by_cases c0 : a0 = b0
  · by_cases c1 : a1 = b1
    · by_cases c2 : a2 = b2
      · by_cases c3 : a3 = b3
        · simp [c0, c1, c2, c3]
        · simp [c0, c1, c2, c3]
      · simp [c0, c1, c2]
    · simp [c0, c1]
  · simp [c0]

theorem pv_parts15 (kd fr to tm ix lt cm : Int) (ok la : Bool) (es : List EntV) (zs : List Int) (da : List UInt8) (wx : World) : (binOp .neq 62 (pv4 (!decide (es.length = 0)) (!decide (zs.length = 0)) (!decide (da.length = 0)) la) (ofP kd (!decide (es.length = 0)) (!decide (zs.length = 0)) (!decide (da.length = 0)) la)).run Tryz.prog wx = .ok (.bool (!partsM (⟨kd, fr, to, tm, ix, lt, cm, ok, es, zs, da, la⟩ : MsgV))) wx := by
  unfold ofP partsM
  simp only
  by_cases k3 : kd = 3
  · rw [if_pos k3, if_pos k3, pv_neq15]
    cases decide (es.length = 0) <;> cases decide (zs.length = 0) <;> cases decide (da.length = 0) <;> cases la <;> rfl
  · rw [if_neg k3, if_neg k3]
    by_cases k5 : kd = 5
    · rw [if_pos k5, if_pos k5, pv_neq15]
      cases decide (es.length = 0) <;> cases decide (zs.length = 0) <;> cases decide (da.length = 0) <;> cases la <;> rfl
    · rw [if_neg k5, if_neg k5, pv_neq15]
      cases decide (es.length = 0) <;> cases decide (zs.length = 0) <;> cases decide (da.length = 0) <;> cases la <;> rfl

theorem pv_guard15 (kd : Int) (a b c d : Bool) (x y : Operand) (wx : World) : (eqGuard .neq 62 x y (pv4 a b c d) (ofP kd a b c d)).run Tryz.prog wx = .ok () wx := by
  unfold ofP
  split
  · exact run_eqGuard_agg wx .neq _ x y _ _ (by kernel_rfl)
  · split <;> exact run_eqGuard_agg wx .neq _ x y _ _ (by kernel_rfl)

set_option maxHeartbeats 2000000 in
theorem confOk_any15 (kd fr to tm ix lt cm : Int) (ok : Bool) (oa : Option Addr) (n cl : Nat) (ob : Option Addr) (m cp : Nat) (da : List UInt8) (la : Bool) (es : List EntV) (zs : List Int) (w : World) (hbt : IntsAt w ob m cp zs) :
    Calls Tryz.prog 27 #[(mgval kd fr to tm ix lt cm ok (.slice oa n cl) (.slice ob m cp) da la)] w fun e w' => e = .returned (.bool (confM (⟨kd, fr, to, tm, ix, lt, cm, ok, es, zs, da, la⟩ : MsgV))) ∧ Below w.heap.size w w' := by
  have hb0 := (Below.refl w.heap.size w).alloc (Nat.le_refl _) (.cells #[.int .i64 kd, .int .i64 fr, .int .i64 to, .int .i64 tm, .int .i64 ix, .int .i64 lt, .int .i64 cm, .bool ok, .slice oa n cl, .slice ob m cp, .string ⟨da.toArray⟩, .bool la] 27)
  have HC := hide (implConfOk_any ob m cp zs _ (hbt.below hb0))
  have HB0 := hide hb0
  clear hb0 hbt
  unfold confM
  simp only
  by_cases k5 : kd = 5
  · subst k5
    rw [if_pos rfl]
    generalize confOk zs = b at HC ⊢
    go_enter Tryz.func27, Tryz.ntmps27
    go_wp2_with (go_at_call 58; refine HC.out.mono ?_; rintro e w1 ⟨rfl, rfl⟩)
    go_ret
    exact ⟨by cases b <;> rfl, HB0.out⟩
  · rw [if_neg k5]
    have g5 : (kd == 5) = false := by simpa using k5
    go_enter Tryz.func27, Tryz.ntmps27
    go_wp2_with fail
    go_ret
    exact ⟨by first | rfl | simp, HB0.out⟩

set_option maxHeartbeats 4000000 in
theorem entriesOk_any15 (kd fr to tm ix lt cm : Int) (ok : Bool) (oa : Option Addr) (n cl : Nat) (ob : Option Addr) (m cp : Nat) (da : List UInt8) (la : Bool) (es : List EntV) (w : World) (hat : EntsAt w oa n cl es) (hw : ∀ f ∈ es, f.data.size ≤ 1048576) :
    Calls Tryz.prog 26 #[(mgval kd fr to tm ix lt cm ok (.slice oa n cl) (.slice ob m cp) da la)] w fun e w' => e = .returned (.bool (decide (es.length ≤ 4) && upM tm lt es)) ∧ Below w.heap.size w w' := by
  have hb0 := (Below.refl w.heap.size w).alloc (Nat.le_refl _) (.cells #[.int .i64 kd, .int .i64 fr, .int .i64 to, .int .i64 tm, .int .i64 ix, .int .i64 lt, .int .i64 cm, .bool ok, .slice oa n cl, .slice ob m cp, .string ⟨da.toArray⟩, .bool la] 27)
  have HX0 := hide (XS.new w #[.int .i64 kd, .int .i64 fr, .int .i64 to, .int .i64 tm, .int .i64 ix, .int .i64 lt, .int .i64 cm, .bool ok, .slice oa n cl, .slice ob m cp, .string ⟨da.toArray⟩, .bool la] 27)
  have HAT := hide hat
  have HW := hide hw
  have HB0 := hide hb0
  have hn := hat.len
  have hmx := Nat.le_trans hat.room hat.most
  unfold maxLen at hmx
  clear hat hw hb0
  rw [hn]
  have HN := hide hn
  clear hn
  by_cases c3 : n ≤ 4
  · rw [decide_eq_true c3, Bool.true_and]
    go_enter Tryz.func26, Tryz.ntmps26
    go_wp2_with fail
    go_loopw [15, 3] (fun i l wr => ∃ (j : Nat) (t : Int), i = .int .i64 (j : Int) ∧ l = .int .i64 t ∧ j ≤ n ∧ upM tm t (es.drop j) = upM tm lt es ∧ XS w.heap.size #[.int .i64 kd, .int .i64 fr, .int .i64 to, .int .i64 tm, .int .i64 ix, .int .i64 lt, .int .i64 cm, .bool ok, .slice oa n cl, .slice ob m cp, .string ⟨da.toArray⟩, .bool la] 27 wr ∧ Below w.heap.size w wr) (fun i _ _ => n - (intOf i).toNat)
    case atStart => exact ⟨0, lt, rfl, rfl, Nat.zero_le _, by simp, HX0.out, HB0.out⟩
    case round =>
      obtain ⟨j, t, rfl, rfl, hj, hup, hx, hbel⟩ := hrel
      by_cases hlt : j < n
      · have j0 : (j : Int) < (n : Int) := by omega
        obtain ⟨f, b, q, hf, hidx, hb, d0, d1, d2⟩ := (HAT.out.below hbel).get3 Tryz.underlying24 infoIE j hlt
        have hEO := hide (implEntryOk_any f (HW.out f (List.mem_of_getElem? hf)))
        unfold eval at hEO
        rw [drop_at6 hf, upM_cons] at hup
        have hbA := hbel.alloc hbel.size (.cells #[.int .i64 f.term, .int .i64 f.kind, .string f.data] 56)
        have HBA := hide hbA
        have HXA := hide (hx.alloc (.cells #[.int .i64 f.term, .int .i64 f.kind, .string f.data] 56))
        have hsz := hbel.size
        clear hf hbel hbA hx
        cases hok : f.ok with
        | false =>
          rw [hok, Bool.false_and] at hup
          have HU := hide hup
          have HK := hide hok
          clear hup hok
          go_wp2_with (go_at_call 56; refine (hEO.out _).mono ?_; rw [HK.out]; rintro e w2 ⟨rfl, hb2⟩)
          go_ret
          exact ⟨by rw [← HU.out]; rfl, HBA.out.trans (hb2.mono (by simp; omega))⟩
        | true =>
          rw [hok, Bool.true_and] at hup
          have HK := hide hok
          clear hok
          by_cases ct : t ≤ f.term ∧ f.term ≤ tm
          · rw [inR_iff.2 ct, Bool.true_and] at hup
            have HU := hide hup
            clear hup
            go_wp2_with (first
              | (go_at_call 56; refine (hEO.out _).mono ?_; rw [HK.out]; rintro e w2 ⟨rfl, hb2⟩; have y0 : w2.cell? ⟨wr.heap.size, 0, none⟩ = some (.int .i64 f.term) := (hb2.cell (by simp)).trans (by simp); obtain ⟨k0, k1, k2, k3, k4, k5, k6, k7, k8, k9, k10, k11⟩ := xs12 (HXA.out.on hb2); have HB2 := hide hb2; clear hb2)
              | (go_at_call 57; refine (within_yes _ _ _ ct.1 ct.2 _).mono ?_; rintro e w3 ⟨rfl, rfl⟩))
            go_roundw
            case rel => exact ⟨j + 1, f.term, by go_num, rfl, by omega, HU.out, HXA.out.on HB2.out, HBA.out.trans (HB2.out.mono (by simp; omega))⟩
            case measure => simp [intOf]; omega
          · have hno : inR f.term t tm = false := by
              cases h : inR f.term t tm with
              | false => rfl
              | true => exact absurd (inR_iff.1 h) ct
            rw [hno, Bool.false_and] at hup
            have HU := hide hup
            clear hup
            go_wp2_with (first
              | (go_at_call 56; refine (hEO.out _).mono ?_; rw [HK.out]; rintro e w2 ⟨rfl, hb2⟩; have y0 : w2.cell? ⟨wr.heap.size, 0, none⟩ = some (.int .i64 f.term) := (hb2.cell (by simp)).trans (by simp); obtain ⟨k0, k1, k2, k3, k4, k5, k6, k7, k8, k9, k10, k11⟩ := xs12 (HXA.out.on hb2); have HB2 := hide hb2; clear hb2)
              | (go_at_call 57; refine (within_no _ _ _ (by omega) _).mono ?_; rintro e w3 ⟨rfl, rfl⟩))
            go_ret
            exact ⟨by rw [← HU.out]; rfl, HBA.out.trans (HB2.out.mono (by simp; omega))⟩
      · have hjn : j = n := by omega
        have HU := hide (show upM tm lt es = true by
          rw [← hup, hjn, ← HN.out, List.drop_length]
          rfl)
        clear hup
        go_wp2_with fail
        go_ret
        exact ⟨by rw [HU.out]; rfl, hbel⟩
  · rw [decide_eq_false c3, Bool.false_and]
    have g3 : ((n : Int) > 4) := by omega
    go_enter Tryz.func26, Tryz.ntmps26
    go_wp2_with fail
    go_ret
    exact ⟨rfl, HB0.out⟩

end Go.Proofs.YtmllcomppjkhhaaGreatDoor
