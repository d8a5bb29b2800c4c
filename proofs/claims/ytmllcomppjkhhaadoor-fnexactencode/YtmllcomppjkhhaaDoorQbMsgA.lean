/-
  Walks and mathematics of MsgA.
-/
import Derived.Test.YtmllcomppjkhhaaDoorQbLog3
import Derived.Test.YtmllcomppjkhhaaDoorQbLit15
import Derived.Test.YtmllcomppjkhhaaDoorQbInts
import Derived.ChangeSlices
import Derived.WideShapes
import Derived.Deep.Cut
namespace Go.Proofs.YtmllcomppjkhhaaDoor.P18
end Go.Proofs.YtmllcomppjkhhaaDoor.P18
namespace Go.Proofs.YtmllcomppjkhhaaDoor.P3
end Go.Proofs.YtmllcomppjkhhaaDoor.P3
namespace Go.Proofs.YtmllcomppjkhhaaDoor
open Go.RowKit P1 P3 P9 P11 P12 P18 K
set_option linter.unusedVariables false
set_option linter.unusedSimpArgs false

abbrev mgval (kd fr to tm ix lt cm : Int) (ok : Bool) (xe xc : Value) (da : List UInt8) (la : Bool) : Value := .agg #[.int .i64 kd, .int .i64 fr, .int .i64 to, .int .i64 tm, .int .i64 ix, .int .i64 lt, .int .i64 cm, .bool ok, xe, xc, .string ⟨da.toArray⟩, .bool la]

theorem xs12 {h : Nat} {c0 c1 c2 c3 c4 c5 c6 c7 c8 c9 c10 c11 : Value} {T : TypeId} {w : World} (k : XS h #[c0, c1, c2, c3, c4, c5, c6, c7, c8, c9, c10, c11] T w) : w.cell? ⟨h, 0, none⟩ = some c0 ∧ w.cell? ⟨h, 1, none⟩ = some c1 ∧ w.cell? ⟨h, 2, none⟩ = some c2 ∧ w.cell? ⟨h, 3, none⟩ = some c3 ∧ w.cell? ⟨h, 4, none⟩ = some c4 ∧ w.cell? ⟨h, 5, none⟩ = some c5 ∧ w.cell? ⟨h, 6, none⟩ = some c6 ∧ w.cell? ⟨h, 7, none⟩ = some c7 ∧ w.cell? ⟨h, 8, none⟩ = some c8 ∧ w.cell? ⟨h, 9, none⟩ = some c9 ∧ w.cell? ⟨h, 10, none⟩ = some c10 ∧ w.cell? ⟨h, 11, none⟩ = some c11 :=
  ⟨k.cell 0 rfl, k.cell 1 rfl, k.cell 2 rfl, k.cell 3 rfl, k.cell 4 rfl, k.cell 5 rfl, k.cell 6 rfl, k.cell 7 rfl, k.cell 8 rfl, k.cell 9 rfl, k.cell 10 rfl, k.cell 11 rfl⟩

theorem sets12 {w : World} {b : Nat} {T : TypeId} {c0 c1 c2 c3 c4 c5 c6 c7 c8 c9 c10 c11 : Value} (h : XS b #[c0, c1, c2, c3, c4, c5, c6, c7, c8, c9, c10, c11] T w) (v0 v1 v2 v3 v4 v5 v6 v7 v8 v9 v10 v11 : Value) : ∃ W', ((((((((((((w.setCell ⟨b, 0, none⟩ (v0)).setCell ⟨b, 1, none⟩ (v1)).setCell ⟨b, 2, none⟩ (v2)).setCell ⟨b, 3, none⟩ (v3)).setCell ⟨b, 4, none⟩ (v4)).setCell ⟨b, 5, none⟩ (v5)).setCell ⟨b, 6, none⟩ (v6)).setCell ⟨b, 7, none⟩ (v7)).setCell ⟨b, 8, none⟩ (v8)).setCell ⟨b, 9, none⟩ (v9)).setCell ⟨b, 10, none⟩ (v10)).setCell ⟨b, 11, none⟩ (v11)) = W' ∧ XS b #[v0, v1, v2, v3, v4, v5, v6, v7, v8, v9, v10, v11] T W' ∧ w.grownBy W' (some b) := by
  have g0 := h
  have g1 : XS b #[v0, c1, c2, c3, c4, c5, c6, c7, c8, c9, c10, c11] T ((w.setCell ⟨b, 0, none⟩ (v0))) := g0.set 0 v0
  have g2 : XS b #[v0, v1, c2, c3, c4, c5, c6, c7, c8, c9, c10, c11] T (((w.setCell ⟨b, 0, none⟩ (v0)).setCell ⟨b, 1, none⟩ (v1))) := g1.set 1 v1
  have g3 : XS b #[v0, v1, v2, c3, c4, c5, c6, c7, c8, c9, c10, c11] T ((((w.setCell ⟨b, 0, none⟩ (v0)).setCell ⟨b, 1, none⟩ (v1)).setCell ⟨b, 2, none⟩ (v2))) := g2.set 2 v2
  have g4 : XS b #[v0, v1, v2, v3, c4, c5, c6, c7, c8, c9, c10, c11] T (((((w.setCell ⟨b, 0, none⟩ (v0)).setCell ⟨b, 1, none⟩ (v1)).setCell ⟨b, 2, none⟩ (v2)).setCell ⟨b, 3, none⟩ (v3))) := g3.set 3 v3
  have g5 : XS b #[v0, v1, v2, v3, v4, c5, c6, c7, c8, c9, c10, c11] T ((((((w.setCell ⟨b, 0, none⟩ (v0)).setCell ⟨b, 1, none⟩ (v1)).setCell ⟨b, 2, none⟩ (v2)).setCell ⟨b, 3, none⟩ (v3)).setCell ⟨b, 4, none⟩ (v4))) := g4.set 4 v4
  have g6 : XS b #[v0, v1, v2, v3, v4, v5, c6, c7, c8, c9, c10, c11] T (((((((w.setCell ⟨b, 0, none⟩ (v0)).setCell ⟨b, 1, none⟩ (v1)).setCell ⟨b, 2, none⟩ (v2)).setCell ⟨b, 3, none⟩ (v3)).setCell ⟨b, 4, none⟩ (v4)).setCell ⟨b, 5, none⟩ (v5))) := g5.set 5 v5
  have g7 : XS b #[v0, v1, v2, v3, v4, v5, v6, c7, c8, c9, c10, c11] T ((((((((w.setCell ⟨b, 0, none⟩ (v0)).setCell ⟨b, 1, none⟩ (v1)).setCell ⟨b, 2, none⟩ (v2)).setCell ⟨b, 3, none⟩ (v3)).setCell ⟨b, 4, none⟩ (v4)).setCell ⟨b, 5, none⟩ (v5)).setCell ⟨b, 6, none⟩ (v6))) := g6.set 6 v6
  have g8 : XS b #[v0, v1, v2, v3, v4, v5, v6, v7, c8, c9, c10, c11] T (((((((((w.setCell ⟨b, 0, none⟩ (v0)).setCell ⟨b, 1, none⟩ (v1)).setCell ⟨b, 2, none⟩ (v2)).setCell ⟨b, 3, none⟩ (v3)).setCell ⟨b, 4, none⟩ (v4)).setCell ⟨b, 5, none⟩ (v5)).setCell ⟨b, 6, none⟩ (v6)).setCell ⟨b, 7, none⟩ (v7))) := g7.set 7 v7
  have g9 : XS b #[v0, v1, v2, v3, v4, v5, v6, v7, v8, c9, c10, c11] T ((((((((((w.setCell ⟨b, 0, none⟩ (v0)).setCell ⟨b, 1, none⟩ (v1)).setCell ⟨b, 2, none⟩ (v2)).setCell ⟨b, 3, none⟩ (v3)).setCell ⟨b, 4, none⟩ (v4)).setCell ⟨b, 5, none⟩ (v5)).setCell ⟨b, 6, none⟩ (v6)).setCell ⟨b, 7, none⟩ (v7)).setCell ⟨b, 8, none⟩ (v8))) := g8.set 8 v8
  have g10 : XS b #[v0, v1, v2, v3, v4, v5, v6, v7, v8, v9, c10, c11] T (((((((((((w.setCell ⟨b, 0, none⟩ (v0)).setCell ⟨b, 1, none⟩ (v1)).setCell ⟨b, 2, none⟩ (v2)).setCell ⟨b, 3, none⟩ (v3)).setCell ⟨b, 4, none⟩ (v4)).setCell ⟨b, 5, none⟩ (v5)).setCell ⟨b, 6, none⟩ (v6)).setCell ⟨b, 7, none⟩ (v7)).setCell ⟨b, 8, none⟩ (v8)).setCell ⟨b, 9, none⟩ (v9))) := g9.set 9 v9
  have g11 : XS b #[v0, v1, v2, v3, v4, v5, v6, v7, v8, v9, v10, c11] T ((((((((((((w.setCell ⟨b, 0, none⟩ (v0)).setCell ⟨b, 1, none⟩ (v1)).setCell ⟨b, 2, none⟩ (v2)).setCell ⟨b, 3, none⟩ (v3)).setCell ⟨b, 4, none⟩ (v4)).setCell ⟨b, 5, none⟩ (v5)).setCell ⟨b, 6, none⟩ (v6)).setCell ⟨b, 7, none⟩ (v7)).setCell ⟨b, 8, none⟩ (v8)).setCell ⟨b, 9, none⟩ (v9)).setCell ⟨b, 10, none⟩ (v10))) := g10.set 10 v10
  have g12 : XS b #[v0, v1, v2, v3, v4, v5, v6, v7, v8, v9, v10, v11] T (((((((((((((w.setCell ⟨b, 0, none⟩ (v0)).setCell ⟨b, 1, none⟩ (v1)).setCell ⟨b, 2, none⟩ (v2)).setCell ⟨b, 3, none⟩ (v3)).setCell ⟨b, 4, none⟩ (v4)).setCell ⟨b, 5, none⟩ (v5)).setCell ⟨b, 6, none⟩ (v6)).setCell ⟨b, 7, none⟩ (v7)).setCell ⟨b, 8, none⟩ (v8)).setCell ⟨b, 9, none⟩ (v9)).setCell ⟨b, 10, none⟩ (v10)).setCell ⟨b, 11, none⟩ (v11))) := g11.set 11 v11
  exact ⟨_, rfl, g12, grown_trans (grown_trans (grown_trans (grown_trans (grown_trans (grown_trans (grown_trans (grown_trans (grown_trans (grown_trans (grown_trans (blk_grown _ _ _ _) (blk_grown _ _ _ _)) (blk_grown _ _ _ _)) (blk_grown _ _ _ _)) (blk_grown _ _ _ _)) (blk_grown _ _ _ _)) (blk_grown _ _ _ _)) (blk_grown _ _ _ _)) (blk_grown _ _ _ _)) (blk_grown _ _ _ _)) (blk_grown _ _ _ _)) (blk_grown _ _ _ _)⟩

def szMg (es : List EntV) (m d : Nat) (left : Int) : Int := if szEs es left < 0 then -1 else if szEs es left - m < 0 then -1 else if szEs es left - m - d < 0 then -1 else szEs es left - m - d

theorem szMg_fine {es : List EntV} {m d : Nat} (h : ¬ szMg es m d 1048576 < 0) : es.length ≤ 1048576 ∧ (∀ f ∈ es, f.data.size ≤ 1048576) ∧ m ≤ 1048576 ∧ d ≤ 1048576 := by
  unfold szMg at h
  split at h
  · omega
  · rename_i c
    obtain ⟨h1, h2, h3⟩ := szEs_fine (Int.le_refl _) (by omega) (szEs_ge c)
    split at h
    · omega
    · split at h
      · omega
      · exact ⟨h2, h3, by omega, by omega⟩

set_option maxHeartbeats 2000000 in
theorem szMessage_any (kd fr to tm ix lt cm : Int) (ok : Bool) (oa : Option Addr) (n cl : Nat) (ob : Option Addr) (m cp : Nat) (da : List UInt8) (la : Bool) (es : List EntV) (left : Int) (h0 : 0 ≤ left) (h1 : left ≤ 1048576) (w : World) (hat : EntsAt w oa n cl es) (hw : ∀ f ∈ es, EntWide f) (hm : m ≤ maxLen) (hd : da.length ≤ maxLen) :
    Calls Tryd.prog 6 #[mgval kd fr to tm ix lt cm ok (.slice oa n cl) (.slice ob m cp) da la, .int .i64 left] w fun e w' => e = .returned (.int .i64 (szMg es m da.length left)) ∧ Below w.heap.size w w' := by
  have hb0 := (Below.refl w.heap.size w).alloc (Nat.le_refl _) (.cells #[.int .i64 kd, .int .i64 fr, .int .i64 to, .int .i64 tm, .int .i64 ix, .int .i64 lt, .int .i64 cm, .bool ok, .slice oa n cl, .slice ob m cp, .string ⟨da.toArray⟩, .bool la] 25)
  have HS := hide (szEntryS_any oa n cl es left h0 h1 _ (hat.below hb0) hw)
  have HX0 := hide (XS.new w #[.int .i64 kd, .int .i64 fr, .int .i64 to, .int .i64 tm, .int .i64 ix, .int .i64 lt, .int .i64 cm, .bool ok, .slice oa n cl, .slice ob m cp, .string ⟨da.toArray⟩, .bool la] 25)
  have HB0 := hide hb0
  have hle : 0 ≤ szEs es left → szEs es left ≤ left := fun h => (szEs_fine h1 h0 h).1
  clear hat hw hb0
  unfold szMg
  generalize szEs es left = z at HS hle ⊢
  by_cases c : z < 0
  · rw [if_pos c]
    clear hle
    go_enter Tryd.func6, Tryd.ntmps6
    go_wp2_with fail
    refine HS.out.mono ?_
    rintro e w1 ⟨rfl, hb1⟩
    have HB1 := hide (HB0.out.trans (hb1.mono HB0.out.size))
    clear hb1
    go_wp2_with fail
    go_ret
    exact ⟨rfl, HB1.out⟩
  · rw [if_neg c]
    have hz1 := hle (by omega)
    have HI := hide (szIntS_any ob m cp hm z (by omega) (by omega))
    unfold maxLen at hm hd
    clear hle
    by_cases c1 : z - m < 0
    · rw [if_pos c1]
      rw [if_pos c1] at HI
      go_enter Tryd.func6, Tryd.ntmps6
      go_wp2_with fail
      refine HS.out.mono ?_
      rintro e w1 ⟨rfl, hb1⟩
      have HB1 := hide (HB0.out.trans (hb1.mono HB0.out.size))
      obtain ⟨k0, k1, k2, k3, k4, k5, k6, k7, k8, k9, k10, k11⟩ := xs12 (HX0.out.on hb1)
      clear hb1
      go_wp2_with fail
      refine (HI.out _).mono ?_
      rintro e w2 ⟨rfl, rfl⟩
      go_wp2_with fail
      go_ret
      exact ⟨rfl, HB1.out⟩
    · rw [if_neg c1]
      rw [if_neg c1] at HI
      by_cases c2 : z - m - da.length < 0
      · rw [if_pos c2]
        go_enter Tryd.func6, Tryd.ntmps6
        go_wp2_with fail
        refine HS.out.mono ?_
        rintro e w1 ⟨rfl, hb1⟩
        have HB1 := hide (HB0.out.trans (hb1.mono HB0.out.size))
        obtain ⟨k0, k1, k2, k3, k4, k5, k6, k7, k8, k9, k10, k11⟩ := xs12 (HX0.out.on hb1)
        clear hb1
        go_wp2_with fail
        refine (HI.out _).mono ?_
        rintro e w2 ⟨rfl, rfl⟩
        go_wp2_with fail
        go_ret
        exact ⟨rfl, HB1.out⟩
      · rw [if_neg c2]
        go_enter Tryd.func6, Tryd.ntmps6
        go_wp2_with fail
        refine HS.out.mono ?_
        rintro e w1 ⟨rfl, hb1⟩
        have HB1 := hide (HB0.out.trans (hb1.mono HB0.out.size))
        obtain ⟨k0, k1, k2, k3, k4, k5, k6, k7, k8, k9, k10, k11⟩ := xs12 (HX0.out.on hb1)
        clear hb1
        go_wp2_with fail
        refine (HI.out _).mono ?_
        rintro e w2 ⟨rfl, rfl⟩
        go_wp2_with fail
        go_ret
        exact ⟨rfl, HB1.out⟩

def ToMg (w : World) (kd fr to tm ix lt cm : Int) (ok : Bool) (n : Nat) (es : List EntV) (m : Nat) (zs : List Int) (da : List UInt8) (la : Bool) (e : Ending) (w' : World) : Prop :=
  ∃ g h, e = .returned (mgval kd fr to tm ix lt cm ok (.slice (some ⟨g, 0, none⟩) n n) (.slice (some ⟨h, 0, none⟩) m m) da la) ∧ w'.ownsRow w.heap.size 45 3 (.slice (some ⟨g, 0, none⟩) n n) n (es.flatMap ecells) ∧ w'.ownsRow w.heap.size 3 1 (.slice (some ⟨h, 0, none⟩) m m) m (zs.map icell) ∧ Below w.heap.size w w'

set_option maxRecDepth 20000 in
set_option maxHeartbeats 8000000 in
theorem toMessage_any (kd fr to tm ix lt cm : Int) (ok : Bool) (oa : Option Addr) (n cl : Nat) (ob : Option Addr) (m cp : Nat) (da : List UInt8) (la : Bool) (es : List EntV) (zs : List Int) (hn20 : n ≤ 1048576) (hm20 : m ≤ 1048576) (w : World) (hat : EntsAt w oa n cl es) (hbt : IntsAt w ob m cp zs) :
    Calls Tryd.prog 8 #[mgval kd fr to tm ix lt cm ok (.slice oa n cl) (.slice ob m cp) da la] w fun e w' => ToMg w kd fr to tm ix lt cm ok n es m zs da la e w' := by
  obtain ⟨W1, hW1⟩ : ∃ W1, ((w.alloc (.cells #[.int .i64 kd, .int .i64 fr, .int .i64 to, .int .i64 tm, .int .i64 ix, .int .i64 lt, .int .i64 cm, .bool ok, .slice oa n cl, .slice ob m cp, .string ⟨da.toArray⟩, .bool la] 25)).alloc (.cells #[.int .i64 0, .int .i64 0, .int .i64 0, .int .i64 0, .int .i64 0, .int .i64 0, .int .i64 0, .bool false, .slice none 0 0, .slice none 0 0, .string ⟨#[]⟩, .bool false] 30)).alloc (.cells #[.int .i64 kd, .int .i64 fr, .int .i64 to, .int .i64 tm, .int .i64 ix, .int .i64 lt, .int .i64 cm, .bool ok, .slice none 0 0, .slice none 0 0, .string ⟨#[]⟩, .bool false] 30) = W1 := ⟨_, rfl⟩
  have hb1 : Below w.heap.size w W1 := by
    rw [← hW1]
    exact (((Below.refl w.heap.size w).alloc (Nat.le_refl _) _).alloc (by simp) _).alloc (by simp; omega) _
  have hL : XS w.heap.size #[.int .i64 kd, .int .i64 fr, .int .i64 to, .int .i64 tm, .int .i64 ix, .int .i64 lt, .int .i64 cm, .bool ok, .slice oa n cl, .slice ob m cp, .string ⟨da.toArray⟩, .bool la] 25 W1 := by
    rw [← hW1]
    exact ((XS.new w #[.int .i64 kd, .int .i64 fr, .int .i64 to, .int .i64 tm, .int .i64 ix, .int .i64 lt, .int .i64 cm, .bool ok, .slice oa n cl, .slice ob m cp, .string ⟨da.toArray⟩, .bool la] 25).alloc _).alloc _
  have hZ : XS (w.heap.size + 1) #[.int .i64 0, .int .i64 0, .int .i64 0, .int .i64 0, .int .i64 0, .int .i64 0, .int .i64 0, .bool false, .slice none 0 0, .slice none 0 0, .string ⟨#[]⟩, .bool false] 30 W1 := by
    rw [← hW1]
    have h := XS.new (w.alloc (.cells #[.int .i64 kd, .int .i64 fr, .int .i64 to, .int .i64 tm, .int .i64 ix, .int .i64 lt, .int .i64 cm, .bool ok, .slice oa n cl, .slice ob m cp, .string ⟨da.toArray⟩, .bool la] 25)) #[.int .i64 0, .int .i64 0, .int .i64 0, .int .i64 0, .int .i64 0, .int .i64 0, .int .i64 0, .bool false, .slice none 0 0, .slice none 0 0, .string ⟨#[]⟩, .bool false] 30
    rw [World.size_alloc] at h
    exact h.alloc _
  have hO : XS (w.heap.size + 1 + 1) #[.int .i64 kd, .int .i64 fr, .int .i64 to, .int .i64 tm, .int .i64 ix, .int .i64 lt, .int .i64 cm, .bool ok, .slice none 0 0, .slice none 0 0, .string ⟨#[]⟩, .bool false] 30 W1 := by
    rw [← hW1]
    have h := XS.new ((w.alloc (.cells #[.int .i64 kd, .int .i64 fr, .int .i64 to, .int .i64 tm, .int .i64 ix, .int .i64 lt, .int .i64 cm, .bool ok, .slice oa n cl, .slice ob m cp, .string ⟨da.toArray⟩, .bool la] 25)).alloc (.cells #[.int .i64 0, .int .i64 0, .int .i64 0, .int .i64 0, .int .i64 0, .int .i64 0, .int .i64 0, .bool false, .slice none 0 0, .slice none 0 0, .string ⟨#[]⟩, .bool false] 30)) #[.int .i64 kd, .int .i64 fr, .int .i64 to, .int .i64 tm, .int .i64 ix, .int .i64 lt, .int .i64 cm, .bool ok, .slice none 0 0, .slice none 0 0, .string ⟨#[]⟩, .bool false] 30
    rw [World.size_alloc, World.size_alloc] at h
    exact h
  have hs1 : W1.heap.size = w.heap.size + 1 + 1 + 1 := by rw [← hW1]; simp
  have HE := hide (toEntryS_any oa n cl es hn20 W1 (hat.below hb1))
  have HI := hide (fun w hbt => toIntS_any ob m cp zs hm20 w hbt)
  have HBT := hide hbt
  have HB1 := hide hb1
  have HL1 := hide hL
  have HZ1 := hide hZ
  have HO1 := hide hO
  have HS1 := hide hs1
  have HW1 := hide hW1
  clear hat hbt hb1 hL hZ hO hs1 hW1
  go_enter Tryd.func8, Tryd.ntmps8
  go_upto_region 10 with fail
  rw [HW1.out]
  clear HW1
  obtain ⟨k0, k1, k2, k3, k4, k5, k6, k7, k8, k9, k10, k11⟩ := xs12 HL1.out
  go_wp2_with fail
  refine HE.out.mono ?_
  rintro e w2 ⟨g, rfl, hg2, hb2⟩
  have HB2 := hide (HB1.out.trans (hb2.mono HB1.out.size))
  have HL2 := hide (HL1.out.on hb2)
  have HZ2 := hide (HZ1.out.on hb2)
  have HO2 := hide (HO1.out.on hb2)
  have HG2 := hide (hg2.kept (blk_grown _ (w.heap.size + 1 + 1) 8 (.slice (some ⟨g, 0, none⟩) n n)) (Or.inr (fun q => by have := hg2.lt (w.heap.size + 1 + 1) q; have := HS1.out; omega)))
  have HS2 := hide (show w.heap.size + 1 + 1 + 1 ≤ w2.heap.size by rw [← HS1.out]; exact hb2.size)
  have HO3 := hide (HO2.out.set 8 (.slice (some ⟨g, 0, none⟩) n n))
  have HL3 := hide (HL2.out.kept (blk_grown w2 (w.heap.size + 1 + 1) 8 (.slice (some ⟨g, 0, none⟩) n n)) (fun q => by have := Option.some.inj q; omega))
  have HZ3 := hide (HZ2.out.kept (blk_grown w2 (w.heap.size + 1 + 1) 8 (.slice (some ⟨g, 0, none⟩) n n)) (fun q => by have := Option.some.inj q; omega))
  have HB3 := hide (HB2.out.setCell (p := ⟨w.heap.size + 1 + 1, 8, none⟩) (by simp; omega) (.slice (some ⟨g, 0, none⟩) n n))
  have HS3 := hide (show w.heap.size + 1 + 1 + 1 ≤ (w2.setCell ⟨w.heap.size + 1 + 1, 8, none⟩ (.slice (some ⟨g, 0, none⟩) n n)).heap.size by simpa using HS2.out)
  clear hg2 hb2 k0 k1 k2 k3 k4 k5 k6 k7 k8 k9 k10 k11 HL1 HZ1 HO1 HE
  obtain ⟨k0, k1, k2, k3, k4, k5, k6, k7, k8, k9, k10, k11⟩ := xs12 HL2.out
  have f8 := HO2.out.free 8
  have o8 := HO2.out.cell 8 rfl
  go_upto_region 11 with fail
  clear f8 o8 k0 k1 k2 k3 k4 k5 k6 k7 k8 k9 k10 k11 HL2 HZ2 HO2 HB2
  generalize w2.setCell ⟨w.heap.size + 1 + 1, 8, none⟩ (.slice (some ⟨g, 0, none⟩) n n) = w3 at HG2 HO3 HL3 HZ3 HB3 HS3 ⊢
  obtain ⟨k0, k1, k2, k3, k4, k5, k6, k7, k8, k9, k10, k11⟩ := xs12 HL3.out
  go_wp2_with fail
  refine (HI.out _ (HBT.out.below HB3.out)).mono ?_
  rintro e w4 ⟨h, rfl, hh4, hb4⟩
  have HB4 := hide (HB3.out.trans (hb4.mono HB3.out.size))
  have HL4 := hide (HL3.out.on hb4)
  have HZ4 := hide (HZ3.out.on hb4)
  have HO4 := hide (HO3.out.on hb4)
  have HG4 := hide (own_below HG2.out hb4)
  have HH4 := hide hh4
  have HS4 := hide (Nat.le_trans HS3.out hb4.size)
  have HHB := hide (show ∀ q, (Value.slice (some ⟨h, 0, none⟩) m m).ownBlock = some q → w.heap.size + 1 + 1 + 1 ≤ q from fun q e => Nat.le_trans HS3.out (hh4.lt q e).1)
  have HGB := hide (show ∀ q, (Value.slice (some ⟨g, 0, none⟩) n n).ownBlock = some q → w.heap.size + 1 + 1 + 1 ≤ q from fun q e => by have := (HG2.out.lt q e).1; have := HS1.out; omega)
  clear hh4 hb4 k0 k1 k2 k3 k4 k5 k6 k7 k8 k9 k10 k11 HL3 HZ3 HO3 HB3 HG2
  obtain ⟨k0, k1, k2, k3, k4, k5, k6, k7, k8, k9, k10, k11⟩ := xs12 HL4.out
  have f9 := HO4.out.free 9
  have o9 := HO4.out.cell 9 rfl
  have f10 := HO4.out.free 10
  have o10 := HO4.out.cell 10 rfl
  have f11 := HO4.out.free 11
  have o11 := HO4.out.cell 11 rfl
  go_upto_region 14 with fail
  obtain ⟨w5, hw5⟩ : ∃ w5, (((w4.setCell ⟨w.heap.size + 1 + 1, 9, none⟩ (.slice (some ⟨h, 0, none⟩) m m)).setCell ⟨w.heap.size + 1 + 1, 10, none⟩ (.string ⟨da.toArray⟩)).setCell ⟨w.heap.size + 1 + 1, 11, none⟩ (.bool la)) = w5 := ⟨_, rfl⟩
  have hO5 : XS (w.heap.size + 1 + 1) #[.int .i64 kd, .int .i64 fr, .int .i64 to, .int .i64 tm, .int .i64 ix, .int .i64 lt, .int .i64 cm, .bool ok, .slice (some ⟨g, 0, none⟩) n n, .slice (some ⟨h, 0, none⟩) m m, .string ⟨da.toArray⟩, .bool la] 30 w5 := by rw [← hw5]; exact ((HO4.out.set 9 (.slice (some ⟨h, 0, none⟩) m m)).set 10 (.string ⟨da.toArray⟩)).set 11 (.bool la)
  have hg5 : w4.grownBy w5 (some (w.heap.size + 1 + 1)) := by rw [← hw5]; exact grown_trans (grown_trans (blk_grown _ _ _ _) (blk_grown _ _ _ _)) (blk_grown _ _ _ _)
  rw [hw5]
  have HZ5 := hide (HZ4.out.kept hg5 (fun q => by have := Option.some.inj q; omega))
  have HS5 := hide (Nat.le_trans HS4.out hg5.size)
  have HB5 := hide (HB4.out.grown hg5 HB4.out.size (fun k hk => by cases hk; omega))
  have HG5 := hide (HG4.out.kept hg5 (Or.inr (fun q => by have := HGB.out _ q; omega)))
  have HH5 := hide (HH4.out.kept hg5 (Or.inr (fun q => by have := HHB.out _ q; omega)))
  have HO5 := hide hO5
  clear hw5 hO5 hg5 f9 o9 f10 o10 f11 o11 k0 k1 k2 k3 k4 k5 k6 k7 k8 k9 k10 k11 HL4 HZ4 HO4 HB4 HG4 HH4
  have z0 := HZ5.out.free 0
  have y0 := HZ5.out.cell 0 rfl
  have o0 := HO5.out.cell 0 rfl
  have z1 := HZ5.out.free 1
  have y1 := HZ5.out.cell 1 rfl
  have o1 := HO5.out.cell 1 rfl
  have z2 := HZ5.out.free 2
  have y2 := HZ5.out.cell 2 rfl
  have o2 := HO5.out.cell 2 rfl
  have z3 := HZ5.out.free 3
  have y3 := HZ5.out.cell 3 rfl
  have o3 := HO5.out.cell 3 rfl
  have z4 := HZ5.out.free 4
  have y4 := HZ5.out.cell 4 rfl
  have o4 := HO5.out.cell 4 rfl
  have z5 := HZ5.out.free 5
  have y5 := HZ5.out.cell 5 rfl
  have o5 := HO5.out.cell 5 rfl
  have z6 := HZ5.out.free 6
  have y6 := HZ5.out.cell 6 rfl
  have o6 := HO5.out.cell 6 rfl
  have z7 := HZ5.out.free 7
  have y7 := HZ5.out.cell 7 rfl
  have o7 := HO5.out.cell 7 rfl
  have z8 := HZ5.out.free 8
  have y8 := HZ5.out.cell 8 rfl
  have o8 := HO5.out.cell 8 rfl
  have z9 := HZ5.out.free 9
  have y9 := HZ5.out.cell 9 rfl
  have o9 := HO5.out.cell 9 rfl
  have z10 := HZ5.out.free 10
  have y10 := HZ5.out.cell 10 rfl
  have o10 := HO5.out.cell 10 rfl
  have z11 := HZ5.out.free 11
  have y11 := HZ5.out.cell 11 rfl
  have o11 := HO5.out.cell 11 rfl
  go_wp2_with fail
  obtain ⟨w6, hw6, hR6, hg6⟩ := sets12 HZ5.out (.int .i64 kd) (.int .i64 fr) (.int .i64 to) (.int .i64 tm) (.int .i64 ix) (.int .i64 lt) (.int .i64 cm) (.bool ok) (.slice (some ⟨g, 0, none⟩) n n) (.slice (some ⟨h, 0, none⟩) m m) (.string ⟨da.toArray⟩) (.bool la)
  rw [hw6]
  clear hw6
  have r0 := XS.cell hR6 0 rfl
  have r1 := XS.cell hR6 1 rfl
  have r2 := XS.cell hR6 2 rfl
  have r3 := XS.cell hR6 3 rfl
  have r4 := XS.cell hR6 4 rfl
  have r5 := XS.cell hR6 5 rfl
  have r6 := XS.cell hR6 6 rfl
  have r7 := XS.cell hR6 7 rfl
  have r8 := XS.cell hR6 8 rfl
  have r9 := XS.cell hR6 9 rfl
  have r10 := XS.cell hR6 10 rfl
  have r11 := XS.cell hR6 11 rfl
  refine bodyPost_ret (v := mgval kd fr to tm ix lt cm ok (.slice (some ⟨g, 0, none⟩) n n) (.slice (some ⟨h, 0, none⟩) m m) da la) (by simp [results, Tryd.results8, go_sem, r0, r1, r2, r3, r4, r5, r6, r7, r8, r9, r10, r11]) rfl ⟨g, h, rfl, ?_, ?_, ?_⟩
  · exact own_base (HG5.out.kept hg6 (Or.inr (fun q => by have := HGB.out _ q; omega))) (by have := HS1.out; omega)
  · exact own_base (HH5.out.kept hg6 (Or.inr (fun q => by have := HHB.out _ q; omega))) (by have := HB5.out.size; have := HS1.out; first | omega | exact Nat.le_trans (by omega) HS3.out)
  · exact HB5.out.grown hg6 HB5.out.size (fun k hk => by cases hk; omega)

set_option maxHeartbeats 4000000 in
theorem eqMessage_same (kd fr to tm ix lt cm : Int) (ok : Bool) (oa : Option Addr) (n cl : Nat) (ob : Option Addr) (m cp : Nat) (da : List UInt8) (la : Bool) (es : List EntV) (zs : List Int) (oc od : Option Addr) (cl2 cp2 : Nat) (hn20 : n ≤ 1048576) (hm20 : m ≤ 1048576) (w : World) (h1 : EntsAt w oa n cl es) (h2 : EntsAt w oc n cl2 es) (h3 : IntsAt w ob m cp zs) (h4 : IntsAt w od m cp2 zs) :
    Calls Tryd.prog 10 #[mgval kd fr to tm ix lt cm ok (.slice oa n cl) (.slice ob m cp) da la, mgval kd fr to tm ix lt cm ok (.slice oc n cl2) (.slice od m cp2) da la] w fun e w' => e = .returned (.bool true) ∧ Below w.heap.size w w' := by
  have hb0 := ((Below.refl w.heap.size w).alloc (Nat.le_refl _) (.cells #[.int .i64 kd, .int .i64 fr, .int .i64 to, .int .i64 tm, .int .i64 ix, .int .i64 lt, .int .i64 cm, .bool ok, .slice oa n cl, .slice ob m cp, .string ⟨da.toArray⟩, .bool la] 30)).alloc (by simp) (.cells #[.int .i64 kd, .int .i64 fr, .int .i64 to, .int .i64 tm, .int .i64 ix, .int .i64 lt, .int .i64 cm, .bool ok, .slice oc n cl2, .slice od m cp2, .string ⟨da.toArray⟩, .bool la] 30)
  have HE := hide (eqEntryS_same oa n cl oc cl2 es hn20 _ (h1.below hb0) (h2.below hb0))
  have HI := hide (fun w h3 h4 => eqIntS_same ob m cp od cp2 zs hm20 w h3 h4)
  have L1 := hide ((XS.new w #[.int .i64 kd, .int .i64 fr, .int .i64 to, .int .i64 tm, .int .i64 ix, .int .i64 lt, .int .i64 cm, .bool ok, .slice oa n cl, .slice ob m cp, .string ⟨da.toArray⟩, .bool la] 30).alloc (.cells #[.int .i64 kd, .int .i64 fr, .int .i64 to, .int .i64 tm, .int .i64 ix, .int .i64 lt, .int .i64 cm, .bool ok, .slice oc n cl2, .slice od m cp2, .string ⟨da.toArray⟩, .bool la] 30))
  have hL2 := XS.new (w.alloc (.cells #[.int .i64 kd, .int .i64 fr, .int .i64 to, .int .i64 tm, .int .i64 ix, .int .i64 lt, .int .i64 cm, .bool ok, .slice oa n cl, .slice ob m cp, .string ⟨da.toArray⟩, .bool la] 30)) #[.int .i64 kd, .int .i64 fr, .int .i64 to, .int .i64 tm, .int .i64 ix, .int .i64 lt, .int .i64 cm, .bool ok, .slice oc n cl2, .slice od m cp2, .string ⟨da.toArray⟩, .bool la] 30
  rw [World.size_alloc] at hL2
  have L2 := hide hL2
  have HB0 := hide hb0
  have H3 := hide (h3.below hb0)
  have H4 := hide (h4.below hb0)
  have hs : (da.toArray.toList == da.toArray.toList) = true := by simp
  clear h1 h2 h3 h4 hb0 hL2
  go_enter Tryd.func10, Tryd.ntmps10
  go_wp2_with fail
  refine HE.out.mono ?_
  rintro e w1 ⟨rfl, hb1⟩
  have HB1 := hide (HB0.out.trans (hb1.mono HB0.out.size))
  have L1b := hide (L1.out.on hb1)
  have L2b := hide (L2.out.on hb1)
  have H3b := hide (H3.out.below hb1)
  have H4b := hide (H4.out.below hb1)
  clear hb1 L1 L2 H3 H4 HB0
  obtain ⟨k0, k1, k2, k3, k4, k5, k6, k7, k8, k9, k10, k11⟩ := xs12 L1b.out
  obtain ⟨l0, l1, l2, l3, l4, l5, l6, l7, l8, l9, l10, l11⟩ := xs12 L2b.out
  go_wp2_with fail
  clear k0 k1 k2 k3 k4 k5 k6 k7 k8 k9 k10 k11 l0 l1 l2 l3 l4 l5 l6 l7 l8 l9 l10 l11
  refine (HI.out _ H3b.out H4b.out).mono ?_
  rintro e w2 ⟨rfl, hb2⟩
  have HB2 := hide (HB1.out.trans (hb2.mono HB1.out.size))
  obtain ⟨k0, k1, k2, k3, k4, k5, k6, k7, k8, k9, k10, k11⟩ := xs12 (L1b.out.on hb2)
  obtain ⟨l0, l1, l2, l3, l4, l5, l6, l7, l8, l9, l10, l11⟩ := xs12 (L2b.out.on hb2)
  clear hb2 L1b L2b
  go_wp2_with fail
  go_ret
  exact ⟨rfl, HB2.out⟩

end Go.Proofs.YtmllcomppjkhhaaDoor
