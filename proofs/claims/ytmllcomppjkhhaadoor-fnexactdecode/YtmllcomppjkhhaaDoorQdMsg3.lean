/-
  Walks and mathematics of Msg3.
-/
import Derived.Test.YtmllcomppjkhhaaDoorQdMsgA
import Derived.Test.YtmllcomppjkhhaaDoorQdMsg1
import Derived.Laws.StructEq
import Derived.ChangeKeysEq
namespace Go.Proofs.YtmllcomppjkhhaaDoor.P18
end Go.Proofs.YtmllcomppjkhhaaDoor.P18
namespace Go.Proofs.YtmllcomppjkhhaaDoor.P3
end Go.Proofs.YtmllcomppjkhhaaDoor.P3
namespace Go.Proofs.YtmllcomppjkhhaaDoor
open Go.RowKit P1 P3 P9 P11 P12 P18 K
set_option linter.unusedVariables false
set_option linter.unusedSimpArgs false

abbrev nv7 (a b c d e f g : Int) : Value := .agg #[.int .i64 a, .int .i64 b, .int .i64 c, .int .i64 d, .int .i64 e, .int .i64 f, .int .i64 g]

abbrev pv4 (a b c d : Bool) : Value := .agg #[.bool a, .bool b, .bool c, .bool d]

set_option maxHeartbeats 1000000 in
theorem numbers_any15 (kd fr to tm ix lt cm : Int) (ok : Bool) (oa : Option Addr) (n cl : Nat) (ob : Option Addr) (m cp : Nat) (da : List UInt8) (la : Bool) (w : World) :
    Calls Tryd.prog 24 #[(mgval kd fr to tm ix lt cm ok (.slice oa n cl) (.slice ob m cp) da la)] w fun e w' => e = .returned (nv7 kd fr to tm ix lt cm) ∧ Below w.heap.size w w' := by
  have HB := hide (((Below.refl w.heap.size w).alloc (Nat.le_refl _) (.cells #[.int .i64 kd, .int .i64 fr, .int .i64 to, .int .i64 tm, .int .i64 ix, .int .i64 lt, .int .i64 cm, .bool ok, .slice oa n cl, .slice ob m cp, .string ⟨da.toArray⟩, .bool la] 30)).alloc (by simp) (.cells #[.int .i64 kd, .int .i64 fr, .int .i64 to, .int .i64 tm, .int .i64 ix, .int .i64 lt, .int .i64 cm] 50))
  go_enter Tryd.func24, Tryd.ntmps24
  go_wp2_with fail
  refine bodyPost_ret (v := nv7 kd fr to tm ix lt cm) (by simp [results, Tryd.results24, go_sem]) rfl ⟨rfl, ?_⟩
  repeat (refine Below.setCell ?_ (by simp) _)
  exact HB.out

def hasP (n : Nat) : Bool := decide ((n : Int) > 0)

theorem hasP_no {n : Nat} : hasP n = !decide (n = 0) := by unfold hasP; by_cases c : n = 0 <;> simp [c]; omega

set_option maxHeartbeats 1000000 in
theorem parts_any15 (kd fr to tm ix lt cm : Int) (ok : Bool) (oa : Option Addr) (n cl : Nat) (ob : Option Addr) (m cp : Nat) (da : List UInt8) (la : Bool) (hn : n ≤ 1048576) (hm : m ≤ 1048576) (w : World) :
    Calls Tryd.prog 25 #[(mgval kd fr to tm ix lt cm ok (.slice oa n cl) (.slice ob m cp) da la)] w fun e w' => e = .returned (pv4 (!decide (n = 0)) (!decide (m = 0)) (!decide (da.length = 0)) la) ∧ Below w.heap.size w w' := by
  have HB0 := hide ((Below.refl w.heap.size w).alloc (Nat.le_refl _) (.cells #[.int .i64 kd, .int .i64 fr, .int .i64 to, .int .i64 tm, .int .i64 ix, .int .i64 lt, .int .i64 cm, .bool ok, .slice oa n cl, .slice ob m cp, .string ⟨da.toArray⟩, .bool la] 30))
  go_enter Tryd.func25, Tryd.ntmps25
  go_wp2_with fail
  refine bodyPost_ret (v := pv4 (!decide (n = 0)) (!decide (m = 0)) (!decide (da.length = 0)) la) ?_ rfl ⟨rfl, ?_⟩
  · rw [← hasP_no, ← hasP_no]
    unfold hasP
    simp [results, Tryd.results25, go_sem]
    try (cases da <;> simp)
  · repeat (refine Below.setCell ?_ (by simp) _)
    exact HB0.out.alloc (by simp) _

theorem xs7 {h : Nat} {c0 c1 c2 c3 c4 c5 c6 : Value} {T : TypeId} {w : World} (k : XS h #[c0, c1, c2, c3, c4, c5, c6] T w) : w.cell? ⟨h, 0, none⟩ = some c0 ∧ w.cell? ⟨h, 1, none⟩ = some c1 ∧ w.cell? ⟨h, 2, none⟩ = some c2 ∧ w.cell? ⟨h, 3, none⟩ = some c3 ∧ w.cell? ⟨h, 4, none⟩ = some c4 ∧ w.cell? ⟨h, 5, none⟩ = some c5 ∧ w.cell? ⟨h, 6, none⟩ = some c6 :=
  ⟨k.cell 0 rfl, k.cell 1 rfl, k.cell 2 rfl, k.cell 3 rfl, k.cell 4 rfl, k.cell 5 rfl, k.cell 6 rfl⟩

theorem sets7 {w : World} {b : Nat} {T : TypeId} {c0 c1 c2 c3 c4 c5 c6 : Value} (h : XS b #[c0, c1, c2, c3, c4, c5, c6] T w) (v0 v1 v2 v3 v4 v5 v6 : Value) : ∃ W', (((((((w.setCell ⟨b, 0, none⟩ (v0)).setCell ⟨b, 1, none⟩ (v1)).setCell ⟨b, 2, none⟩ (v2)).setCell ⟨b, 3, none⟩ (v3)).setCell ⟨b, 4, none⟩ (v4)).setCell ⟨b, 5, none⟩ (v5)).setCell ⟨b, 6, none⟩ (v6)) = W' ∧ XS b #[v0, v1, v2, v3, v4, v5, v6] T W' ∧ w.grownBy W' (some b) := by
  have g0 := h
  have g1 : XS b #[v0, c1, c2, c3, c4, c5, c6] T ((w.setCell ⟨b, 0, none⟩ (v0))) := g0.set 0 v0
  have g2 : XS b #[v0, v1, c2, c3, c4, c5, c6] T (((w.setCell ⟨b, 0, none⟩ (v0)).setCell ⟨b, 1, none⟩ (v1))) := g1.set 1 v1
  have g3 : XS b #[v0, v1, v2, c3, c4, c5, c6] T ((((w.setCell ⟨b, 0, none⟩ (v0)).setCell ⟨b, 1, none⟩ (v1)).setCell ⟨b, 2, none⟩ (v2))) := g2.set 2 v2
  have g4 : XS b #[v0, v1, v2, v3, c4, c5, c6] T (((((w.setCell ⟨b, 0, none⟩ (v0)).setCell ⟨b, 1, none⟩ (v1)).setCell ⟨b, 2, none⟩ (v2)).setCell ⟨b, 3, none⟩ (v3))) := g3.set 3 v3
  have g5 : XS b #[v0, v1, v2, v3, v4, c5, c6] T ((((((w.setCell ⟨b, 0, none⟩ (v0)).setCell ⟨b, 1, none⟩ (v1)).setCell ⟨b, 2, none⟩ (v2)).setCell ⟨b, 3, none⟩ (v3)).setCell ⟨b, 4, none⟩ (v4))) := g4.set 4 v4
  have g6 : XS b #[v0, v1, v2, v3, v4, v5, c6] T (((((((w.setCell ⟨b, 0, none⟩ (v0)).setCell ⟨b, 1, none⟩ (v1)).setCell ⟨b, 2, none⟩ (v2)).setCell ⟨b, 3, none⟩ (v3)).setCell ⟨b, 4, none⟩ (v4)).setCell ⟨b, 5, none⟩ (v5))) := g5.set 5 v5
  have g7 : XS b #[v0, v1, v2, v3, v4, v5, v6] T ((((((((w.setCell ⟨b, 0, none⟩ (v0)).setCell ⟨b, 1, none⟩ (v1)).setCell ⟨b, 2, none⟩ (v2)).setCell ⟨b, 3, none⟩ (v3)).setCell ⟨b, 4, none⟩ (v4)).setCell ⟨b, 5, none⟩ (v5)).setCell ⟨b, 6, none⟩ (v6))) := g6.set 6 v6
  exact ⟨_, rfl, g7, grown_trans (grown_trans (grown_trans (grown_trans (grown_trans (grown_trans (blk_grown _ _ _ _) (blk_grown _ _ _ _)) (blk_grown _ _ _ _)) (blk_grown _ _ _ _)) (blk_grown _ _ _ _)) (blk_grown _ _ _ _)) (blk_grown _ _ _ _)⟩

theorem xs4 {h : Nat} {c0 c1 c2 c3 : Value} {T : TypeId} {w : World} (k : XS h #[c0, c1, c2, c3] T w) : w.cell? ⟨h, 0, none⟩ = some c0 ∧ w.cell? ⟨h, 1, none⟩ = some c1 ∧ w.cell? ⟨h, 2, none⟩ = some c2 ∧ w.cell? ⟨h, 3, none⟩ = some c3 :=
  ⟨k.cell 0 rfl, k.cell 1 rfl, k.cell 2 rfl, k.cell 3 rfl⟩

theorem sets4 {w : World} {b : Nat} {T : TypeId} {c0 c1 c2 c3 : Value} (h : XS b #[c0, c1, c2, c3] T w) (v0 v1 v2 v3 : Value) : ∃ W', ((((w.setCell ⟨b, 0, none⟩ (v0)).setCell ⟨b, 1, none⟩ (v1)).setCell ⟨b, 2, none⟩ (v2)).setCell ⟨b, 3, none⟩ (v3)) = W' ∧ XS b #[v0, v1, v2, v3] T W' ∧ w.grownBy W' (some b) := by
  have g0 := h
  have g1 : XS b #[v0, c1, c2, c3] T ((w.setCell ⟨b, 0, none⟩ (v0))) := g0.set 0 v0
  have g2 : XS b #[v0, v1, c2, c3] T (((w.setCell ⟨b, 0, none⟩ (v0)).setCell ⟨b, 1, none⟩ (v1))) := g1.set 1 v1
  have g3 : XS b #[v0, v1, v2, c3] T ((((w.setCell ⟨b, 0, none⟩ (v0)).setCell ⟨b, 1, none⟩ (v1)).setCell ⟨b, 2, none⟩ (v2))) := g2.set 2 v2
  have g4 : XS b #[v0, v1, v2, v3] T (((((w.setCell ⟨b, 0, none⟩ (v0)).setCell ⟨b, 1, none⟩ (v1)).setCell ⟨b, 2, none⟩ (v2)).setCell ⟨b, 3, none⟩ (v3))) := g3.set 3 v3
  exact ⟨_, rfl, g4, grown_trans (grown_trans (grown_trans (blk_grown _ _ _ _) (blk_grown _ _ _ _)) (blk_grown _ _ _ _)) (blk_grown _ _ _ _)⟩

def near15 (i : Nat) (z : Int) : Int := nearI z (leasts.getD i 0) (mosts.getD i 0)

def limA (a b c d e f g : Int) (j : Nat) : Array Value := #[.int .i64 (if 0 < j then near15 0 a else a), .int .i64 (if 1 < j then near15 1 b else b), .int .i64 (if 2 < j then near15 2 c else c), .int .i64 (if 3 < j then near15 3 d else d), .int .i64 (if 4 < j then near15 4 e else e), .int .i64 (if 5 < j then near15 5 f else f), .int .i64 (if 6 < j then near15 6 g else g)]

theorem limA_at (a b c d e f g : Int) (j : Nat) (h : j < 7) : ∃ z, (limA a b c d e f g j)[j]? = some (.int .i64 z) ∧ (limA a b c d e f g j).setIfInBounds j (.int .i64 (near15 j z)) = limA a b c d e f g (j + 1) := by
  rcases (show j = 0 ∨ j = 1 ∨ j = 2 ∨ j = 3 ∨ j = 4 ∨ j = 5 ∨ j = 6 by omega) with rfl | rfl | rfl | rfl | rfl | rfl | rfl
  · exact ⟨a, rfl, rfl⟩
  · exact ⟨b, rfl, rfl⟩
  · exact ⟨c, rfl, rfl⟩
  · exact ⟨d, rfl, rfl⟩
  · exact ⟨e, rfl, rfl⟩
  · exact ⟨f, rfl, rfl⟩
  · exact ⟨g, rfl, rfl⟩

theorem lims_le (j : Nat) (h : j < 7) : leasts.getD j 0 ≤ mosts.getD j 0 := by
  rcases (show j = 0 ∨ j = 1 ∨ j = 2 ∨ j = 3 ∨ j = 4 ∨ j = 5 ∨ j = 6 by omega) with rfl | rfl | rfl | rfl | rfl | rfl | rfl <;> decide

def lim7 (a b c d e f g : Int) : Value := nv7 (nearI a 1 6) (nearI b 1 4) (nearI c 1 4) (nearI d 0 100000) (nearI e 0 1000000) (nearI f 0 100000) (nearI g 0 1000000)

theorem limA_end (a b c d e f g : Int) : limA a b c d e f g 7 = #[.int .i64 (nearI a 1 6), .int .i64 (nearI b 1 4), .int .i64 (nearI c 1 4), .int .i64 (nearI d 0 100000), .int .i64 (nearI e 0 1000000), .int .i64 (nearI f 0 100000), .int .i64 (nearI g 0 1000000)] := rfl

structure LmS (w : World) (cs : Array Value) (w' : World) : Prop where
  x : XS w.heap.size cs 50 w'
  z : XS (w.heap.size + 1) #[.int .i64 0, .int .i64 0, .int .i64 0, .int .i64 0, .int .i64 0, .int .i64 0, .int .i64 0] 50 w'
  b : Below w.heap.size w w'
  t : LimIs w'

theorem LmS.drew {w w' : World} {cs : Array Value} (h : LmS w cs w') : LmS w cs w'.drew := ⟨h.x.drew, h.z.drew, h.b.drew, h.t.on (Below.refl _ _).drew⟩

theorem LimIs.low {w w' : World} (h : LimIs w) (hb : Below w.heap.size w w') {w2 : World} (hb2 : Below w.heap.size w' w2) : LimIs w2 := h.on (hb.trans hb2)

set_option maxRecDepth 100000 in
set_option maxHeartbeats 4000000 in
theorem limited_any15 (a b c d e f g : Int) (w : World) (ht : LimIs w) :
    Calls Tryd.prog 26 #[nv7 a b c d e f g] w fun r w' => r = .returned (lim7 a b c d e f g) ∧ Below w.heap.size w w' := by
  have H0 := hide (show LmS w (limA a b c d e f g 0) ((w.alloc (.cells #[.int .i64 a, .int .i64 b, .int .i64 c, .int .i64 d, .int .i64 e, .int .i64 f, .int .i64 g] 50)).alloc (.cells #[.int .i64 0, .int .i64 0, .int .i64 0, .int .i64 0, .int .i64 0, .int .i64 0, .int .i64 0] 50)) by
    have k1 := (Below.refl w.heap.size w).alloc (Nat.le_refl _) (.cells #[.int .i64 a, .int .i64 b, .int .i64 c, .int .i64 d, .int .i64 e, .int .i64 f, .int .i64 g] 50)
    have k2 := k1.alloc (by simp) (.cells #[.int .i64 0, .int .i64 0, .int .i64 0, .int .i64 0, .int .i64 0, .int .i64 0, .int .i64 0] 50)
    have e2 := XS.new (w.alloc (.cells #[.int .i64 a, .int .i64 b, .int .i64 c, .int .i64 d, .int .i64 e, .int .i64 f, .int .i64 g] 50)) #[.int .i64 0, .int .i64 0, .int .i64 0, .int .i64 0, .int .i64 0, .int .i64 0, .int .i64 0] 50
    rw [World.size_alloc] at e2
    exact ⟨(XS.new w _ _).alloc _, e2, k2, ht.on k2⟩)
  have HT0 := hide ht
  clear ht
  go_enter Tryd.func26, Tryd.ntmps26
  go_wp2_with fail
  generalize (w.alloc (.cells #[.int .i64 a, .int .i64 b, .int .i64 c, .int .i64 d, .int .i64 e, .int .i64 f, .int .i64 g] 50)).alloc (.cells #[.int .i64 0, .int .i64 0, .int .i64 0, .int .i64 0, .int .i64 0, .int .i64 0, .int .i64 0] 50) = w0 at H0 ⊢
  go_loopw [4] (fun i wr => ∃ (j : Nat), i = .int .i64 (j : Int) ∧ j ≤ 7 ∧ LmS w (limA a b c d e f g j) wr) (fun i _ => 7 - (intOf i).toNat)
  case atStart => exact ⟨0, rfl, by omega, H0.out⟩
  case round =>
    obtain ⟨j, rfl, hj, hS⟩ := hrel
    by_cases hlt : j < 7
    · have j0 : (j : Int) < 7 := by omega
      obtain ⟨z, hz, hst⟩ := limA_at a b c d e f g j hlt
      have hN := hide (nearest_any z (leasts.getD j 0) (mosts.getD j 0) (lims_le j hlt))
      have dz := hS.x.drew.cell j hz
      have dl := (hS.t.on (Below.refl _ _).drew).lc j hlt
      have dm := (hS.t.on (Below.refl _ _).drew).mc j hlt
      have df := hS.x.drew.free j
      have HR := hide (show LmS w (limA a b c d e f g (j + 1)) (wr.setCell ⟨w.heap.size, j, none⟩ (.int .i64 (near15 j z))).drew from by
        refine LmS.drew ⟨?_, hS.z.kept (blk_grown _ _ _ _) (fun q => by have := Option.some.inj q; omega), hS.b.setCell (by simp) _, HT0.out.on (hS.b.setCell (p := ⟨w.heap.size, j, none⟩) (by simp) _)⟩
        rw [← hst]
        exact hS.x.set j _)
      unfold near15 at HR
      clear hS hz hst
      generalize leasts.getD j 0 = lo at hN dl HR
      generalize mosts.getD j 0 = hi at hN dm HR
      generalize nearI z lo hi = nz at hN HR
      go_wp2_with fail
      go_region_law (first | (rw [if_pos (by rfl)]; go_simp; go_at_call 53; refine (hN.out _).mono ?_; rintro e w2 ⟨rfl, rfl⟩))
      all_goals
        go_wp2_with fail
        go_roundw
        case rel => exact ⟨j + 1, by go_num, by omega, HR.out⟩
        case measure => simp [intOf]; omega
    · have hjn : j = 7 := by omega
      subst hjn
      rw [limA_end] at hS
      have HS := hide hS
      obtain ⟨k0, k1, k2, k3, k4, k5, k6⟩ := xs7 HS.out.x
      obtain ⟨y0, y1, y2, y3, y4, y5, y6⟩ := xs7 HS.out.z
      have f0 := HS.out.z.free 0
      have f1 := HS.out.z.free 1
      have f2 := HS.out.z.free 2
      have f3 := HS.out.z.free 3
      have f4 := HS.out.z.free 4
      have f5 := HS.out.z.free 5
      have f6 := HS.out.z.free 6
      clear hS
      go_wp2_with fail
      obtain ⟨w6, hw6, hR6, hg6⟩ := sets7 HS.out.z (.int .i64 (nearI a 1 6)) (.int .i64 (nearI b 1 4)) (.int .i64 (nearI c 1 4)) (.int .i64 (nearI d 0 100000)) (.int .i64 (nearI e 0 1000000)) (.int .i64 (nearI f 0 100000)) (.int .i64 (nearI g 0 1000000))
      rw [hw6]
      obtain ⟨r0, r1, r2, r3, r4, r5, r6⟩ := xs7 hR6
      refine bodyPost_ret (v := lim7 a b c d e f g) (by simp [results, Tryd.results26, go_sem, lim7, r0, r1, r2, r3, r4, r5, r6]) rfl ⟨rfl, ?_⟩
      exact HS.out.b.grown hg6 HS.out.b.size (fun k hk => by cases hk; omega)

end Go.Proofs.YtmllcomppjkhhaaDoor
