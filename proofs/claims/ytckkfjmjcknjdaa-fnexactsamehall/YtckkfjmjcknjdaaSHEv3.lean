/-
  Walks and mathematics of Ev3.
-/
import Derived.Test.YtckkfjmjcknjdaaSHEv2
import Derived.Test.YtckkfjmjcknjdaaSHInts
import Derived.Test.YtckkfjmjcknjdaaSHPlain9
import Derived.Test.YtckkfjmjcknjdaaSHFlat2
namespace Go.Proofs.Ytckkfjmjcknjdaa.P1
end Go.Proofs.Ytckkfjmjcknjdaa.P1
namespace Go.Proofs.Ytckkfjmjcknjdaa
open Go.RowKit P1 P9 K
set_option linter.unusedVariables false
set_option linter.unusedSimpArgs false

def szV (n k m : Nat) (left : Int) : Int := if left < (n : Int) + (k : Int) + (m : Int) then -1 else left - n - k - m

set_option maxHeartbeats 1000000 in
theorem szIntE_any (oa : Option Addr) (n cap : Nat) (hn : n ≤ maxLen) (left : Int) (h0 : 0 ≤ left) (h1 : left ≤ 1048576) (w : World) :
    Calls Try.prog 74 #[.slice oa n cap, .int .i64 left] w fun e w' => e = .returned (.int .i64 (if left - n < 0 then -1 else left - n)) ∧ w = w' := by
  unfold maxLen at hn
  by_cases c : left - n < 0
  · rw [if_pos c]
    go_enter Try.func74, Try.ntmps74
    go_wp2_with fail
    go_ret
    exact ⟨rfl, rfl⟩
  · rw [if_neg c]
    go_enter Try.func74, Try.ntmps74
    go_wp2_with fail
    go_ret
    exact ⟨rfl, rfl⟩

set_option maxHeartbeats 2000000 in
theorem szEvent_any (id kd sn us mb dp : Int) (oa : Option Addr) (n cap : Nat) (tx : List UInt8) (ob : Option Addr) (m cb : Nat) (hn : n ≤ maxLen) (ht : tx.length ≤ maxLen) (hm : m ≤ maxLen) (left : Int) (h0 : 0 ≤ left) (h1 : left ≤ 1048576) (w : World) :
    Calls Try.prog 72 #[evval id kd sn us mb dp (.slice oa n cap) (.slice ob m cb) tx, .int .i64 left] w fun e w' => e = .returned (.int .i64 (szV n tx.length m left)) ∧ Below w.heap.size w w' := by
  have HB0 := hide ((Below.refl w.heap.size w).alloc (Nat.le_refl _) (.cells #[.int .i64 id, .int .i64 kd, .int .i64 sn, .int .i64 us, .int .i64 mb, .slice oa n cap, .string ⟨tx.toArray⟩, .slice ob m cb, .int .i64 dp] 96))
  have HS := hide (szIntE_any oa n cap hn left h0 h1)
  have HS2 := hide (fun left h0 h1 w => szIntE_any ob m cb hm left h0 h1 w)
  unfold maxLen at hn ht hm
  unfold szV
  by_cases c : left - n < 0
  · rw [if_pos c] at HS
    rw [if_pos (by omega)]
    clear c
    go_enter Try.func72, Try.ntmps72
    go_wp2_with fail
    refine (HS.out _).mono ?_
    rintro e w1 ⟨rfl, rfl⟩
    go_wp2_with fail
    go_ret
    exact ⟨rfl, HB0.out⟩
  · rw [if_neg c] at HS
    by_cases d : left - n - tx.length < 0
    · rw [if_pos (by omega)]
      go_enter Try.func72, Try.ntmps72
      go_wp2_with fail
      refine (HS.out _).mono ?_
      rintro e w1 ⟨rfl, rfl⟩
      go_wp2_with fail
      go_ret
      exact ⟨rfl, HB0.out⟩
    · have HS3 := hide (fun w => HS2.out (left - n - tx.length) (by omega) (by omega) w)
      by_cases f : left - n - tx.length - m < 0
      · rw [if_pos (by omega)]
        rw [if_pos f] at HS3
        go_enter Try.func72, Try.ntmps72
        go_wp2_with fail
        refine (HS.out _).mono ?_
        rintro e w1 ⟨rfl, rfl⟩
        go_wp2_with fail
        refine (HS3.out _).mono ?_
        rintro e w1 ⟨rfl, rfl⟩
        go_wp2_with fail
        go_ret
        exact ⟨rfl, HB0.out⟩
      · rw [if_neg (by omega)]
        rw [if_neg f] at HS3
        go_enter Try.func72, Try.ntmps72
        go_wp2_with fail
        refine (HS.out _).mono ?_
        rintro e w1 ⟨rfl, rfl⟩
        go_wp2_with fail
        refine (HS3.out _).mono ?_
        rintro e w1 ⟨rfl, rfl⟩
        go_wp2_with fail
        go_ret
        exact ⟨rfl, HB0.out⟩

def ToEv (w : World) (id kd sn us mb dp : Int) (n : Nat) (zl : List Int) (tx : List UInt8) (m : Nat) (zp : List Int) (e : Ending) (w' : World) : Prop :=
  ∃ g h, e = .returned (evval id kd sn us mb dp (.slice (some ⟨g, 0, none⟩) n n) (.slice (some ⟨h, 0, none⟩) m m) tx) ∧ w'.ownsRow w.heap.size 3 1 (.slice (some ⟨g, 0, none⟩) n n) n (zl.map icell) ∧ w'.ownsRow w.heap.size 3 1 (.slice (some ⟨h, 0, none⟩) m m) m (zp.map icell) ∧ g < h ∧ Below w.heap.size w w'

set_option maxHeartbeats 4000000 in
theorem toEvent_any (id kd sn us mb dp : Int) (oa : Option Addr) (n cap : Nat) (zl : List Int) (tx : List UInt8) (ob : Option Addr) (m cb : Nat) (zp : List Int) (hn20 : n ≤ 1048576) (hm20 : m ≤ 1048576) (w : World) (hat : IntsAt w oa n cap zl) (hbt : IntsAt w ob m cb zp) :
    Calls Try.prog 75 #[evval id kd sn us mb dp (.slice oa n cap) (.slice ob m cb) tx] w fun e w' => ToEv w id kd sn us mb dp n zl tx m zp e w' := by
  have hb1 := (((Below.refl w.heap.size w).alloc (Nat.le_refl _) (.cells #[.int .i64 id, .int .i64 kd, .int .i64 sn, .int .i64 us, .int .i64 mb, .slice oa n cap, .string ⟨tx.toArray⟩, .slice ob m cb, .int .i64 dp] 96)).alloc (by simp) (.cells #[.int .i64 0, .int .i64 0, .int .i64 0, .int .i64 0, .int .i64 0, .slice none 0 0, .string ⟨#[]⟩, .slice none 0 0, .int .i64 0] 83)).alloc (by simp; omega) (.cells #[.int .i64 id, .int .i64 kd, .int .i64 sn, .int .i64 us, .int .i64 mb, .slice none 0 0, .string ⟨#[]⟩, .slice none 0 0, .int .i64 0] 83)
  have HTO := hide (toIntS_any oa n cap zl hn20 _ (hat.below hb1))
  have HTO2 := hide (fun w hbt => toIntS_any ob m cb zp hm20 w hbt)
  have HB1 := hide hb1
  have HBT := hide hbt
  have HA0 := hide (show EL (((w.alloc (.cells #[.int .i64 id, .int .i64 kd, .int .i64 sn, .int .i64 us, .int .i64 mb, .slice oa n cap, .string ⟨tx.toArray⟩, .slice ob m cb, .int .i64 dp] 96)).alloc (.cells #[.int .i64 0, .int .i64 0, .int .i64 0, .int .i64 0, .int .i64 0, .slice none 0 0, .string ⟨#[]⟩, .slice none 0 0, .int .i64 0] 83)).alloc (.cells #[.int .i64 id, .int .i64 kd, .int .i64 sn, .int .i64 us, .int .i64 mb, .slice none 0 0, .string ⟨#[]⟩, .slice none 0 0, .int .i64 0] 83)) w.heap.size id kd sn us mb dp (.slice oa n cap) (.slice ob m cb) tx from (((EL.new w id kd sn us mb dp (.slice oa n cap) (.slice ob m cb) tx).on ((Below.refl _ _).alloc (Nat.le_refl _) _) (by simp)).on ((Below.refl _ _).alloc (Nat.le_refl _) _) (by simp; omega)))
  have HR0 := hide (show EB (((w.alloc (.cells #[.int .i64 id, .int .i64 kd, .int .i64 sn, .int .i64 us, .int .i64 mb, .slice oa n cap, .string ⟨tx.toArray⟩, .slice ob m cb, .int .i64 dp] 96)).alloc (.cells #[.int .i64 0, .int .i64 0, .int .i64 0, .int .i64 0, .int .i64 0, .slice none 0 0, .string ⟨#[]⟩, .slice none 0 0, .int .i64 0] 83)).alloc (.cells #[.int .i64 id, .int .i64 kd, .int .i64 sn, .int .i64 us, .int .i64 mb, .slice none 0 0, .string ⟨#[]⟩, .slice none 0 0, .int .i64 0] 83)) (w.heap.size + 1) 0 0 0 0 0 0 (.slice none 0 0) (.slice none 0 0) [] by
    have := EB.new (w.alloc (.cells #[.int .i64 id, .int .i64 kd, .int .i64 sn, .int .i64 us, .int .i64 mb, .slice oa n cap, .string ⟨tx.toArray⟩, .slice ob m cb, .int .i64 dp] 96)) 0 0 0 0 0 0 (.slice none 0 0) (.slice none 0 0) []
    rw [World.size_alloc] at this
    exact this.on ((Below.refl (w.heap.size + 1 + 1) _).alloc (by simp) _) (by omega))
  have HO0 := hide (show EB (((w.alloc (.cells #[.int .i64 id, .int .i64 kd, .int .i64 sn, .int .i64 us, .int .i64 mb, .slice oa n cap, .string ⟨tx.toArray⟩, .slice ob m cb, .int .i64 dp] 96)).alloc (.cells #[.int .i64 0, .int .i64 0, .int .i64 0, .int .i64 0, .int .i64 0, .slice none 0 0, .string ⟨#[]⟩, .slice none 0 0, .int .i64 0] 83)).alloc (.cells #[.int .i64 id, .int .i64 kd, .int .i64 sn, .int .i64 us, .int .i64 mb, .slice none 0 0, .string ⟨#[]⟩, .slice none 0 0, .int .i64 0] 83)) (w.heap.size + 1 + 1) id kd sn us mb 0 (.slice none 0 0) (.slice none 0 0) [] by
    have := EB.new ((w.alloc (.cells #[.int .i64 id, .int .i64 kd, .int .i64 sn, .int .i64 us, .int .i64 mb, .slice oa n cap, .string ⟨tx.toArray⟩, .slice ob m cb, .int .i64 dp] 96)).alloc (.cells #[.int .i64 0, .int .i64 0, .int .i64 0, .int .i64 0, .int .i64 0, .slice none 0 0, .string ⟨#[]⟩, .slice none 0 0, .int .i64 0] 83)) id kd sn us mb 0 (.slice none 0 0) (.slice none 0 0) []
    rw [World.size_alloc, World.size_alloc] at this
    exact this)
  have HZ1 := hide (show (((w.alloc (.cells #[.int .i64 id, .int .i64 kd, .int .i64 sn, .int .i64 us, .int .i64 mb, .slice oa n cap, .string ⟨tx.toArray⟩, .slice ob m cb, .int .i64 dp] 96)).alloc (.cells #[.int .i64 0, .int .i64 0, .int .i64 0, .int .i64 0, .int .i64 0, .slice none 0 0, .string ⟨#[]⟩, .slice none 0 0, .int .i64 0] 83)).alloc (.cells #[.int .i64 id, .int .i64 kd, .int .i64 sn, .int .i64 us, .int .i64 mb, .slice none 0 0, .string ⟨#[]⟩, .slice none 0 0, .int .i64 0] 83)).heap.size = w.heap.size + 1 + 1 + 1 by simp)
  clear hat hb1 hbt
  go_enter Try.func75, Try.ntmps75
  go_wp2_with fail
  refine HTO.out.mono ?_
  generalize ((w.alloc (.cells #[.int .i64 id, .int .i64 kd, .int .i64 sn, .int .i64 us, .int .i64 mb, .slice oa n cap, .string ⟨tx.toArray⟩, .slice ob m cb, .int .i64 dp] 96)).alloc (.cells #[.int .i64 0, .int .i64 0, .int .i64 0, .int .i64 0, .int .i64 0, .slice none 0 0, .string ⟨#[]⟩, .slice none 0 0, .int .i64 0] 83)).alloc (.cells #[.int .i64 id, .int .i64 kd, .int .i64 sn, .int .i64 us, .int .i64 mb, .slice none 0 0, .string ⟨#[]⟩, .slice none 0 0, .int .i64 0] 83) = w1 at HB1 HA0 HR0 HO0 HZ1
  have hz1 := HZ1.out
  rintro e w2 ⟨g, rfl, hown, hb2⟩
  have HA2 := hide (HA0.out.on hb2 HA0.out.lt)
  have HR2 := hide (HR0.out.on hb2 HR0.out.lt)
  have HO2 := hide (HO0.out.on hb2 HO0.out.lt)
  have HB2 := hide (HB1.out.trans (hb2.mono HB1.out.size))
  have hz2 := hb2.size
  have HW2 := hide hown
  clear hown hb2
  obtain ⟨a0, a1, a2, a3, a4, a5, a6, a7, a8⟩ := HA2.out.ev
  obtain ⟨o0, o1, o2, o3, o4, o5, o6, o7, o8⟩ := HO2.out.ev
  have f5 := HO2.out.free 5
  have f6 := HO2.out.free 6
  go_wp2_with fail
  have HA3 := hide ((HA2.out.set (k := 5) (p := w.heap.size + 1 + 1) (.slice (some ⟨g, 0, none⟩) n n) (by omega)).set (k := 6) (p := w.heap.size + 1 + 1) (.string ⟨tx.toArray⟩) (by omega))
  have HR3 := hide ((HR2.out.set (k := 5) (p := w.heap.size + 1 + 1) (.slice (some ⟨g, 0, none⟩) n n) (by omega)).set (k := 6) (p := w.heap.size + 1 + 1) (.string ⟨tx.toArray⟩) (by omega))
  have HO3 := hide ((HO2.out.put5 (.slice (some ⟨g, 0, none⟩) n n)).put6 tx)
  have HW3 := hide (own_setCell (own_setCell HW2.out (p := ⟨w.heap.size + 1 + 1, 5, none⟩) (by show w.heap.size + 1 + 1 < w1.heap.size; omega) (.slice (some ⟨g, 0, none⟩) n n)) (p := ⟨w.heap.size + 1 + 1, 6, none⟩) (by show w.heap.size + 1 + 1 < w1.heap.size; omega) (.string ⟨tx.toArray⟩))
  have HB3 := hide ((HB2.out.setCell (p := ⟨w.heap.size + 1 + 1, 5, none⟩) (by show w.heap.size ≤ w.heap.size + 1 + 1; omega) (.slice (some ⟨g, 0, none⟩) n n)).setCell (p := ⟨w.heap.size + 1 + 1, 6, none⟩) (by show w.heap.size ≤ w.heap.size + 1 + 1; omega) (.string ⟨tx.toArray⟩))
  clear a0 a1 a2 a3 a4 a5 a6 a7 a8 o0 o1 o2 o3 o4 o5 o6 o7 o8 f5 f6 HA2 HR2 HO2 HW2 HB2 HTO
  generalize (w2.setCell ⟨w.heap.size + 1 + 1, 5, none⟩ (.slice (some ⟨g, 0, none⟩) n n)).setCell ⟨w.heap.size + 1 + 1, 6, none⟩ (.string ⟨tx.toArray⟩) = w3 at HA3 HR3 HO3 HW3 HB3 ⊢
  refine (HTO2.out _ (HBT.out.below HB3.out)).mono ?_
  rintro e w4 ⟨h, rfl, hown4, hb4⟩
  have HA4 := hide (HA3.out.on hb4 HA3.out.lt)
  have HR4 := hide (HR3.out.on hb4 HR3.out.lt)
  have HO4 := hide (HO3.out.on hb4 HO3.out.lt)
  have HW4 := hide (own_below HW3.out hb4)
  have hlt4 := HO3.out.lt
  have hg3 := (HW3.out.lt g rfl)
  have hg4 := (hown4.lt h rfl)
  have HB4 := hide (HB3.out.trans (hb4.mono HB3.out.size))
  have HX4 := hide hown4
  clear hb4 hown4 HA3 HR3 HO3 HW3 HB3
  obtain ⟨a0, a1, a2, a3, a4, a5, a6, a7, a8⟩ := HA4.out.ev
  obtain ⟨o0, o1, o2, o3, o4, o5, o6, o7, o8⟩ := HO4.out.ev
  obtain ⟨r0, r1, r2, r3, r4, r5, r6, r7, r8⟩ := HR4.out.ev
  have f7 := HO4.out.free 7
  have f8 := HO4.out.free 8
  have z0 := HR4.out.free 0
  have z1 := HR4.out.free 1
  have z2 := HR4.out.free 2
  have z3 := HR4.out.free 3
  have z4 := HR4.out.free 4
  have z5 := HR4.out.free 5
  have z6 := HR4.out.free 6
  have z7 := HR4.out.free 7
  have z8 := HR4.out.free 8
  go_wp2_with fail
  have HR5 := hide ((HR4.out.set (k := 7) (p := w.heap.size + 1 + 1) (.slice (some ⟨h, 0, none⟩) m m) (by omega)).set (k := 8) (p := w.heap.size + 1 + 1) (.int .i64 dp) (by omega))
  have HW5 := hide (own_setCell (own_setCell HW4.out (p := ⟨w.heap.size + 1 + 1, 7, none⟩) (by show w.heap.size + 1 + 1 < w1.heap.size; omega) (.slice (some ⟨h, 0, none⟩) m m)) (p := ⟨w.heap.size + 1 + 1, 8, none⟩) (by show w.heap.size + 1 + 1 < w1.heap.size; omega) (.int .i64 dp))
  have HX5 := hide (own_setCell (own_setCell HX4.out (p := ⟨w.heap.size + 1 + 1, 7, none⟩) (by show w.heap.size + 1 + 1 < w3.heap.size; omega) (.slice (some ⟨h, 0, none⟩) m m)) (p := ⟨w.heap.size + 1 + 1, 8, none⟩) (by show w.heap.size + 1 + 1 < w3.heap.size; omega) (.int .i64 dp))
  have HB5 := hide ((HB4.out.setCell (p := ⟨w.heap.size + 1 + 1, 7, none⟩) (by show w.heap.size ≤ w.heap.size + 1 + 1; omega) (.slice (some ⟨h, 0, none⟩) m m)).setCell (p := ⟨w.heap.size + 1 + 1, 8, none⟩) (by show w.heap.size ≤ w.heap.size + 1 + 1; omega) (.int .i64 dp))
  clear a0 a1 a2 a3 a4 a5 a6 a7 a8 o0 o1 o2 o3 o4 o5 o6 o7 o8 r0 r1 r2 r3 r4 r5 r6 r7 r8 f7 f8 z0 z1 z2 z3 z4 z5 z6 z7 z8 HA4 HR4 HO4 HW4 HX4 HB4
  generalize (w4.setCell ⟨w.heap.size + 1 + 1, 7, none⟩ (.slice (some ⟨h, 0, none⟩) m m)).setCell ⟨w.heap.size + 1 + 1, 8, none⟩ (.int .i64 dp) = w5 at HR5 HW5 HX5 HB5 ⊢
  obtain ⟨w6, hw6, hE6, hg6⟩ := HR5.out.all id kd sn us mb dp (.slice (some ⟨g, 0, none⟩) n n) (.slice (some ⟨h, 0, none⟩) m m) tx
  rw [hw6]
  obtain ⟨c0, c1, c2, c3, c4, c5, c6, c7, c8⟩ := hE6.ev
  refine bodyPost_ret (v := evval id kd sn us mb dp (.slice (some ⟨g, 0, none⟩) n n) (.slice (some ⟨h, 0, none⟩) m m) tx) (by simp [results, Try.results75, go_sem, c0, c1, c2, c3, c4, c5, c6, c7, c8]) rfl ⟨g, h, rfl, ?_, ?_, ?_, ?_⟩
  · exact own_base (HW5.out.kept hg6 (Or.inr (fun q => by have := HW5.out.lt (w.heap.size + 1) q; omega))) (by omega)
  · exact own_base (HX5.out.kept hg6 (Or.inr (fun q => by have := HX5.out.lt (w.heap.size + 1) q; omega))) (by omega)
  · omega
  · exact HB5.out.grown hg6 (HB5.out.size) (fun k hk => by cases hk; omega)

end Go.Proofs.Ytckkfjmjcknjdaa
