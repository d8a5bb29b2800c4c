/-
  Walks and mathematics of Comm8.
-/
import Derived.Test.YtckkfjmjcknjdaaGreatDoorCTComm5
import Derived.Test.YtckkfjmjcknjdaaGreatDoorCTEv5
import Derived.Deep.Cut
namespace Go.Proofs.YtckkfjmjcknjdaaGreatDoor.P3
end Go.Proofs.YtckkfjmjcknjdaaGreatDoor.P3
namespace Go.Proofs.YtckkfjmjcknjdaaGreatDoor
open Go.RowKit P1 P3 P9 P11 P12 P18 K
set_option linter.unusedVariables false
set_option linter.unusedSimpArgs false

set_option maxHeartbeats 1000000 in
theorem szCommand_any (op tk sq id kd sn us mb dp : Int) (oa : Option Addr) (n cl : Nat) (tx : List UInt8) (ob : Option Addr) (m cp : Nat) (ds up : Int) (hn : n ≤ maxLen) (ht : tx.length ≤ maxLen) (hm : m ≤ maxLen) (left : Int) (h0 : 0 ≤ left) (h1 : left ≤ 1048576) (w : World) :
    Calls Tryz.prog 6 #[cmval op tk sq id kd sn us mb dp (.slice oa n cl) (.slice ob m cp) tx ds up, .int .i64 left] w fun e w' => e = .returned (.int .i64 (szV n tx.length m left)) ∧ Below w.heap.size w w' := by
  have HB0 := hide ((Below.refl w.heap.size w).alloc (Nat.le_refl _) (.cells #[.int .i64 op, .int .i64 tk, .int .i64 sq, .int .i64 id, .int .i64 kd, .int .i64 sn, .int .i64 us, .int .i64 mb, .slice oa n cl, .string ⟨tx.toArray⟩, .slice ob m cp, .int .i64 dp, .int .i64 ds, .int .i64 up] 26))
  have HS := hide (fun w => szEvent_any id kd sn us mb dp oa n cl tx ob m cp hn ht hm left h0 h1 w)
  have HM : szV n tx.length m left < 0 → szV n tx.length m left = -1 := by unfold szV; split <;> omega
  clear hn ht hm h0 h1
  generalize szV n tx.length m left = z at HS HM ⊢
  by_cases c : z < 0
  · obtain rfl := HM c
    clear HM
    go_enter Tryz.func6, Tryz.ntmps6
    go_wp2_with fail
    refine (HS.out _).mono ?_
    rintro e w1 ⟨rfl, hb1⟩
    have HB1 := hide (HB0.out.trans (hb1.mono HB0.out.size))
    go_wp2_with fail
    go_ret
    exact ⟨rfl, HB1.out⟩
  · clear HM
    go_enter Tryz.func6, Tryz.ntmps6
    go_wp2_with fail
    refine (HS.out _).mono ?_
    rintro e w1 ⟨rfl, hb1⟩
    have HB1 := hide (HB0.out.trans (hb1.mono HB0.out.size))
    go_wp2_with fail
    go_ret
    exact ⟨rfl, HB1.out⟩

def CL (w : World) (b : Nat) (op tk sq id kd sn us mb dp : Int) (oa : Option Addr) (n cl : Nat) (tx : List UInt8) (ob : Option Addr) (m cp : Nat) (ds up : Int) : Prop := w.heap[b]? = some (.cells #[.int .i64 op, .int .i64 tk, .int .i64 sq, .int .i64 id, .int .i64 kd, .int .i64 sn, .int .i64 us, .int .i64 mb, .slice oa n cl, .string ⟨tx.toArray⟩, .slice ob m cp, .int .i64 dp, .int .i64 ds, .int .i64 up] 26 (0, 0))

theorem CL.new (w : World) (op tk sq id kd sn us mb dp : Int) (oa : Option Addr) (n cl : Nat) (tx : List UInt8) (ob : Option Addr) (m cp : Nat) (ds up : Int) : CL (w.alloc (.cells #[.int .i64 op, .int .i64 tk, .int .i64 sq, .int .i64 id, .int .i64 kd, .int .i64 sn, .int .i64 us, .int .i64 mb, .slice oa n cl, .string ⟨tx.toArray⟩, .slice ob m cp, .int .i64 dp, .int .i64 ds, .int .i64 up] 26)) w.heap.size op tk sq id kd sn us mb dp oa n cl tx ob m cp ds up := heap_alloc_new _ _

theorem CL.lt {w : World} {b : Nat} {op tk sq id kd sn us mb dp : Int} {oa : Option Addr} {n cl : Nat} {tx : List UInt8} {ob : Option Addr} {m cp : Nat} {ds up : Int} (h : CL w b op tk sq id kd sn us mb dp oa n cl tx ob m cp ds up) : b < w.heap.size := blk_lt h

theorem CL.on {w w' : World} {b B : Nat} {op tk sq id kd sn us mb dp : Int} {oa : Option Addr} {n cl : Nat} {tx : List UInt8} {ob : Option Addr} {m cp : Nat} {ds up : Int} (h : CL w b op tk sq id kd sn us mb dp oa n cl tx ob m cp ds up) (hb : Below B w w') (hlt : b < B) : CL w' b op tk sq id kd sn us mb dp oa n cl tx ob m cp ds up := (hb.block b hlt).trans h

theorem CL.cc {w : World} {b : Nat} {op tk sq id kd sn us mb dp : Int} {oa : Option Addr} {n cl : Nat} {tx : List UInt8} {ob : Option Addr} {m cp : Nat} {ds up : Int} (h : CL w b op tk sq id kd sn us mb dp oa n cl tx ob m cp ds up) : CC w b op tk sq id kd sn us mb dp oa n cl tx ob m cp ds up := ⟨blk_cell h 0 rfl, blk_cell h 1 rfl, blk_cell h 2 rfl, blk_cell h 3 rfl, blk_cell h 4 rfl, blk_cell h 5 rfl, blk_cell h 6 rfl, blk_cell h 7 rfl, blk_cell h 8 rfl, blk_cell h 9 rfl, blk_cell h 10 rfl, blk_cell h 11 rfl, blk_cell h 12 rfl, blk_cell h 13 rfl⟩

def ToCm (w : World) (op tk sq id kd sn us mb dp : Int) (n : Nat) (zl : List Int) (tx : List UInt8) (m : Nat) (zp : List Int) (ds up : Int) (e : Ending) (w' : World) : Prop :=
  ∃ g h, e = .returned (cmval op tk sq id kd sn us mb dp (.slice (some ⟨g, 0, none⟩) n n) (.slice (some ⟨h, 0, none⟩) m m) tx ds up) ∧ w'.ownsRow w.heap.size 3 1 (.slice (some ⟨g, 0, none⟩) n n) n (zl.map icell) ∧ w'.ownsRow w.heap.size 3 1 (.slice (some ⟨h, 0, none⟩) m m) m (zp.map icell) ∧ g < h ∧ Below w.heap.size w w'

theorem cset0 {w : World} {b : Nat} {T : TypeId} {c0 c1 c2 c3 c4 c5 c6 c7 c8 c9 c10 c11 c12 c13 v : Value} (h : w.heap[b]? = some (.cells #[c0, c1, c2, c3, c4, c5, c6, c7, c8, c9, c10, c11, c12, c13] T (0, 0))) : (w.setCell ⟨b, 0, none⟩ v).heap[b]? = some (.cells #[v, c1, c2, c3, c4, c5, c6, c7, c8, c9, c10, c11, c12, c13] T (0, 0)) := blk_set _ h

theorem cset1 {w : World} {b : Nat} {T : TypeId} {c0 c1 c2 c3 c4 c5 c6 c7 c8 c9 c10 c11 c12 c13 v : Value} (h : w.heap[b]? = some (.cells #[c0, c1, c2, c3, c4, c5, c6, c7, c8, c9, c10, c11, c12, c13] T (0, 0))) : (w.setCell ⟨b, 1, none⟩ v).heap[b]? = some (.cells #[c0, v, c2, c3, c4, c5, c6, c7, c8, c9, c10, c11, c12, c13] T (0, 0)) := blk_set _ h

theorem cset2 {w : World} {b : Nat} {T : TypeId} {c0 c1 c2 c3 c4 c5 c6 c7 c8 c9 c10 c11 c12 c13 v : Value} (h : w.heap[b]? = some (.cells #[c0, c1, c2, c3, c4, c5, c6, c7, c8, c9, c10, c11, c12, c13] T (0, 0))) : (w.setCell ⟨b, 2, none⟩ v).heap[b]? = some (.cells #[c0, c1, v, c3, c4, c5, c6, c7, c8, c9, c10, c11, c12, c13] T (0, 0)) := blk_set _ h

theorem cset3 {w : World} {b : Nat} {T : TypeId} {c0 c1 c2 c3 c4 c5 c6 c7 c8 c9 c10 c11 c12 c13 v : Value} (h : w.heap[b]? = some (.cells #[c0, c1, c2, c3, c4, c5, c6, c7, c8, c9, c10, c11, c12, c13] T (0, 0))) : (w.setCell ⟨b, 3, none⟩ v).heap[b]? = some (.cells #[c0, c1, c2, v, c4, c5, c6, c7, c8, c9, c10, c11, c12, c13] T (0, 0)) := blk_set _ h

theorem cset4 {w : World} {b : Nat} {T : TypeId} {c0 c1 c2 c3 c4 c5 c6 c7 c8 c9 c10 c11 c12 c13 v : Value} (h : w.heap[b]? = some (.cells #[c0, c1, c2, c3, c4, c5, c6, c7, c8, c9, c10, c11, c12, c13] T (0, 0))) : (w.setCell ⟨b, 4, none⟩ v).heap[b]? = some (.cells #[c0, c1, c2, c3, v, c5, c6, c7, c8, c9, c10, c11, c12, c13] T (0, 0)) := blk_set _ h

theorem cset5 {w : World} {b : Nat} {T : TypeId} {c0 c1 c2 c3 c4 c5 c6 c7 c8 c9 c10 c11 c12 c13 v : Value} (h : w.heap[b]? = some (.cells #[c0, c1, c2, c3, c4, c5, c6, c7, c8, c9, c10, c11, c12, c13] T (0, 0))) : (w.setCell ⟨b, 5, none⟩ v).heap[b]? = some (.cells #[c0, c1, c2, c3, c4, v, c6, c7, c8, c9, c10, c11, c12, c13] T (0, 0)) := blk_set _ h

theorem cset6 {w : World} {b : Nat} {T : TypeId} {c0 c1 c2 c3 c4 c5 c6 c7 c8 c9 c10 c11 c12 c13 v : Value} (h : w.heap[b]? = some (.cells #[c0, c1, c2, c3, c4, c5, c6, c7, c8, c9, c10, c11, c12, c13] T (0, 0))) : (w.setCell ⟨b, 6, none⟩ v).heap[b]? = some (.cells #[c0, c1, c2, c3, c4, c5, v, c7, c8, c9, c10, c11, c12, c13] T (0, 0)) := blk_set _ h

theorem cset7 {w : World} {b : Nat} {T : TypeId} {c0 c1 c2 c3 c4 c5 c6 c7 c8 c9 c10 c11 c12 c13 v : Value} (h : w.heap[b]? = some (.cells #[c0, c1, c2, c3, c4, c5, c6, c7, c8, c9, c10, c11, c12, c13] T (0, 0))) : (w.setCell ⟨b, 7, none⟩ v).heap[b]? = some (.cells #[c0, c1, c2, c3, c4, c5, c6, v, c8, c9, c10, c11, c12, c13] T (0, 0)) := blk_set _ h

theorem cset8 {w : World} {b : Nat} {T : TypeId} {c0 c1 c2 c3 c4 c5 c6 c7 c8 c9 c10 c11 c12 c13 v : Value} (h : w.heap[b]? = some (.cells #[c0, c1, c2, c3, c4, c5, c6, c7, c8, c9, c10, c11, c12, c13] T (0, 0))) : (w.setCell ⟨b, 8, none⟩ v).heap[b]? = some (.cells #[c0, c1, c2, c3, c4, c5, c6, c7, v, c9, c10, c11, c12, c13] T (0, 0)) := blk_set _ h

theorem cset9 {w : World} {b : Nat} {T : TypeId} {c0 c1 c2 c3 c4 c5 c6 c7 c8 c9 c10 c11 c12 c13 v : Value} (h : w.heap[b]? = some (.cells #[c0, c1, c2, c3, c4, c5, c6, c7, c8, c9, c10, c11, c12, c13] T (0, 0))) : (w.setCell ⟨b, 9, none⟩ v).heap[b]? = some (.cells #[c0, c1, c2, c3, c4, c5, c6, c7, c8, v, c10, c11, c12, c13] T (0, 0)) := blk_set _ h

theorem cset10 {w : World} {b : Nat} {T : TypeId} {c0 c1 c2 c3 c4 c5 c6 c7 c8 c9 c10 c11 c12 c13 v : Value} (h : w.heap[b]? = some (.cells #[c0, c1, c2, c3, c4, c5, c6, c7, c8, c9, c10, c11, c12, c13] T (0, 0))) : (w.setCell ⟨b, 10, none⟩ v).heap[b]? = some (.cells #[c0, c1, c2, c3, c4, c5, c6, c7, c8, c9, v, c11, c12, c13] T (0, 0)) := blk_set _ h

theorem cset11 {w : World} {b : Nat} {T : TypeId} {c0 c1 c2 c3 c4 c5 c6 c7 c8 c9 c10 c11 c12 c13 v : Value} (h : w.heap[b]? = some (.cells #[c0, c1, c2, c3, c4, c5, c6, c7, c8, c9, c10, c11, c12, c13] T (0, 0))) : (w.setCell ⟨b, 11, none⟩ v).heap[b]? = some (.cells #[c0, c1, c2, c3, c4, c5, c6, c7, c8, c9, c10, v, c12, c13] T (0, 0)) := blk_set _ h

theorem cset12 {w : World} {b : Nat} {T : TypeId} {c0 c1 c2 c3 c4 c5 c6 c7 c8 c9 c10 c11 c12 c13 v : Value} (h : w.heap[b]? = some (.cells #[c0, c1, c2, c3, c4, c5, c6, c7, c8, c9, c10, c11, c12, c13] T (0, 0))) : (w.setCell ⟨b, 12, none⟩ v).heap[b]? = some (.cells #[c0, c1, c2, c3, c4, c5, c6, c7, c8, c9, c10, c11, v, c13] T (0, 0)) := blk_set _ h

theorem cset13 {w : World} {b : Nat} {T : TypeId} {c0 c1 c2 c3 c4 c5 c6 c7 c8 c9 c10 c11 c12 c13 v : Value} (h : w.heap[b]? = some (.cells #[c0, c1, c2, c3, c4, c5, c6, c7, c8, c9, c10, c11, c12, c13] T (0, 0))) : (w.setCell ⟨b, 13, none⟩ v).heap[b]? = some (.cells #[c0, c1, c2, c3, c4, c5, c6, c7, c8, c9, c10, c11, c12, v] T (0, 0)) := blk_set _ h

set_option maxRecDepth 20000 in
set_option maxHeartbeats 8000000 in
theorem toCommand_any (op tk sq id kd sn us mb dp : Int) (oa : Option Addr) (n cl : Nat) (tx : List UInt8) (ob : Option Addr) (m cp : Nat) (ds up : Int) (zl zp : List Int) (hn20 : n ≤ 1048576) (hm20 : m ≤ 1048576) (w : World) (hat : IntsAt w oa n cl zl) (hbt : IntsAt w ob m cp zp) :
    Calls Tryz.prog 8 #[cmval op tk sq id kd sn us mb dp (.slice oa n cl) (.slice ob m cp) tx ds up] w fun e w' => ToCm w op tk sq id kd sn us mb dp n zl tx m zp ds up e w' := by
  obtain ⟨W1, hW1⟩ : ∃ W1, ((w.alloc (.cells #[.int .i64 op, .int .i64 tk, .int .i64 sq, .int .i64 id, .int .i64 kd, .int .i64 sn, .int .i64 us, .int .i64 mb, .slice oa n cl, .string ⟨tx.toArray⟩, .slice ob m cp, .int .i64 dp, .int .i64 ds, .int .i64 up] 26)).alloc (.cells #[.int .i64 0, .int .i64 0, .int .i64 0, .int .i64 0, .int .i64 0, .int .i64 0, .int .i64 0, .int .i64 0, .slice none 0 0, .string ⟨#[]⟩, .slice none 0 0, .int .i64 0, .int .i64 0, .int .i64 0] 31)).alloc (.cells #[.int .i64 op, .int .i64 tk, .int .i64 sq, .int .i64 0, .int .i64 0, .int .i64 0, .int .i64 0, .int .i64 0, .slice none 0 0, .string ⟨#[]⟩, .slice none 0 0, .int .i64 0, .int .i64 0, .int .i64 0] 31) = W1 := ⟨_, rfl⟩
  have hb1 : Below w.heap.size w W1 := by
    rw [← hW1]
    exact (((Below.refl w.heap.size w).alloc (Nat.le_refl _) _).alloc (by simp) _).alloc (by simp; omega) _
  have hL : CL W1 w.heap.size op tk sq id kd sn us mb dp oa n cl tx ob m cp ds up := by
    rw [← hW1]
    exact ((CL.new w op tk sq id kd sn us mb dp oa n cl tx ob m cp ds up).on ((Below.refl _ _).alloc (Nat.le_refl _) _) (by simp)).on ((Below.refl _ _).alloc (Nat.le_refl _) _) (by simp; omega)
  have hZ : W1.heap[w.heap.size + 1]? = some (.cells #[.int .i64 0, .int .i64 0, .int .i64 0, .int .i64 0, .int .i64 0, .int .i64 0, .int .i64 0, .int .i64 0, .slice none 0 0, .string ⟨#[]⟩, .slice none 0 0, .int .i64 0, .int .i64 0, .int .i64 0] 31 (0, 0)) := by
    rw [← hW1]
    have h := heap_alloc_new (w.alloc (.cells #[.int .i64 op, .int .i64 tk, .int .i64 sq, .int .i64 id, .int .i64 kd, .int .i64 sn, .int .i64 us, .int .i64 mb, .slice oa n cl, .string ⟨tx.toArray⟩, .slice ob m cp, .int .i64 dp, .int .i64 ds, .int .i64 up] 26)) (.cells #[.int .i64 0, .int .i64 0, .int .i64 0, .int .i64 0, .int .i64 0, .int .i64 0, .int .i64 0, .int .i64 0, .slice none 0 0, .string ⟨#[]⟩, .slice none 0 0, .int .i64 0, .int .i64 0, .int .i64 0] 31)
    rw [World.size_alloc] at h
    exact (((Below.refl (w.heap.size + 1 + 1) _).alloc (by simp) _).block _ (by omega)).trans h
  have hO : W1.heap[w.heap.size + 1 + 1]? = some (.cells #[.int .i64 op, .int .i64 tk, .int .i64 sq, .int .i64 0, .int .i64 0, .int .i64 0, .int .i64 0, .int .i64 0, .slice none 0 0, .string ⟨#[]⟩, .slice none 0 0, .int .i64 0, .int .i64 0, .int .i64 0] 31 (0, 0)) := by
    rw [← hW1]
    have h := heap_alloc_new ((w.alloc (.cells #[.int .i64 op, .int .i64 tk, .int .i64 sq, .int .i64 id, .int .i64 kd, .int .i64 sn, .int .i64 us, .int .i64 mb, .slice oa n cl, .string ⟨tx.toArray⟩, .slice ob m cp, .int .i64 dp, .int .i64 ds, .int .i64 up] 26)).alloc (.cells #[.int .i64 0, .int .i64 0, .int .i64 0, .int .i64 0, .int .i64 0, .int .i64 0, .int .i64 0, .int .i64 0, .slice none 0 0, .string ⟨#[]⟩, .slice none 0 0, .int .i64 0, .int .i64 0, .int .i64 0] 31)) (.cells #[.int .i64 op, .int .i64 tk, .int .i64 sq, .int .i64 0, .int .i64 0, .int .i64 0, .int .i64 0, .int .i64 0, .slice none 0 0, .string ⟨#[]⟩, .slice none 0 0, .int .i64 0, .int .i64 0, .int .i64 0] 31)
    rw [World.size_alloc, World.size_alloc] at h
    exact h
  have hs1 : W1.heap.size = w.heap.size + 1 + 1 + 1 := by rw [← hW1]; simp
  have HTO := hide (toEvent_any id kd sn us mb dp oa n cl zl tx ob m cp zp hn20 hm20 W1 (hat.below hb1) (hbt.below hb1))
  have HB1 := hide hb1
  have HL1 := hide hL
  have HZ1 := hide hZ
  have HO1 := hide hO
  have HS1 := hide hs1
  have HW1 := hide hW1
  clear hat hbt hb1 hL hZ hO hs1 hW1
  go_enter Tryz.func8, Tryz.ntmps8
  go_upto_region 5 with fail
  rw [HW1.out]
  clear HW1
  obtain ⟨k0, k1, k2, k3, k4, k5, k6, k7, k8, k9, k10, k11, k12, k13⟩ := HL1.out.cc
  go_wp2_with fail
  refine HTO.out.mono ?_
  rintro e w2 ⟨g, h, rfl, hg2, hh2, hlt2, hb2⟩
  have HB2 := hide (HB1.out.trans (hb2.mono HB1.out.size))
  have HL2 := hide (HL1.out.on hb2 HL1.out.lt)
  have HZ2 := hide ((hb2.block _ (blk_lt HZ1.out)).trans HZ1.out)
  have HO2 := hide ((hb2.block _ (blk_lt HO1.out)).trans HO1.out)
  have HG2 := hide hg2
  have HH2 := hide hh2
  have HS2 := hide (show w.heap.size + 1 + 1 + 1 ≤ w2.heap.size by rw [← HS1.out]; exact hb2.size)
  clear hg2 hh2 hb2
  clear k0 k1 k2 k3 k4 k5 k6 k7 k8 k9 k10 k11 k12 k13
  obtain ⟨k0, k1, k2, k3, k4, k5, k6, k7, k8, k9, k10, k11, k12, k13⟩ := HL2.out.cc
  have f0 := blk_free HO2.out 0
  have o0 := blk_cell HO2.out 0 rfl
  have f1 := blk_free HO2.out 1
  have o1 := blk_cell HO2.out 1 rfl
  have f2 := blk_free HO2.out 2
  have o2 := blk_cell HO2.out 2 rfl
  have f3 := blk_free HO2.out 3
  have o3 := blk_cell HO2.out 3 rfl
  have f4 := blk_free HO2.out 4
  have o4 := blk_cell HO2.out 4 rfl
  have f5 := blk_free HO2.out 5
  have o5 := blk_cell HO2.out 5 rfl
  have f6 := blk_free HO2.out 6
  have o6 := blk_cell HO2.out 6 rfl
  have f7 := blk_free HO2.out 7
  have o7 := blk_cell HO2.out 7 rfl
  have f8 := blk_free HO2.out 8
  have o8 := blk_cell HO2.out 8 rfl
  have f9 := blk_free HO2.out 9
  have o9 := blk_cell HO2.out 9 rfl
  have f10 := blk_free HO2.out 10
  have o10 := blk_cell HO2.out 10 rfl
  have f11 := blk_free HO2.out 11
  have o11 := blk_cell HO2.out 11 rfl
  have f12 := blk_free HO2.out 12
  have o12 := blk_cell HO2.out 12 rfl
  have f13 := blk_free HO2.out 13
  have o13 := blk_cell HO2.out 13 rfl
  go_upto_region 8 with fail
  obtain ⟨w3, hw3⟩ : ∃ w3, (((((((((((w2.setCell ⟨w.heap.size + 1 + 1, 3, none⟩ (.int .i64 id)).setCell ⟨w.heap.size + 1 + 1, 4, none⟩ (.int .i64 kd)).setCell ⟨w.heap.size + 1 + 1, 5, none⟩ (.int .i64 sn)).setCell ⟨w.heap.size + 1 + 1, 6, none⟩ (.int .i64 us)).setCell ⟨w.heap.size + 1 + 1, 7, none⟩ (.int .i64 mb)).setCell ⟨w.heap.size + 1 + 1, 8, none⟩ (.slice (some ⟨g, 0, none⟩) n n)).setCell ⟨w.heap.size + 1 + 1, 9, none⟩ (.string ⟨tx.toArray⟩)).setCell ⟨w.heap.size + 1 + 1, 10, none⟩ (.slice (some ⟨h, 0, none⟩) m m)).setCell ⟨w.heap.size + 1 + 1, 11, none⟩ (.int .i64 dp)).setCell ⟨w.heap.size + 1 + 1, 12, none⟩ (.int .i64 ds)).setCell ⟨w.heap.size + 1 + 1, 13, none⟩ (.int .i64 up)) = w3 := ⟨_, rfl⟩
  have hO3 : w3.heap[w.heap.size + 1 + 1]? = some (.cells #[.int .i64 op, .int .i64 tk, .int .i64 sq, .int .i64 id, .int .i64 kd, .int .i64 sn, .int .i64 us, .int .i64 mb, .slice (some ⟨g, 0, none⟩) n n, .string ⟨tx.toArray⟩, .slice (some ⟨h, 0, none⟩) m m, .int .i64 dp, .int .i64 ds, .int .i64 up] 31 (0, 0)) := by rw [← hw3]; exact cset13 (cset12 (cset11 (cset10 (cset9 (cset8 (cset7 (cset6 (cset5 (cset4 (cset3 (HO2.out)))))))))))
  have hg3 : w2.grownBy w3 (some (w.heap.size + 1 + 1)) := by rw [← hw3]; exact grown_trans (grown_trans (grown_trans (grown_trans (grown_trans (grown_trans (grown_trans (grown_trans (grown_trans (grown_trans (blk_grown _ _ _ _) (blk_grown _ _ _ _)) (blk_grown _ _ _ _)) (blk_grown _ _ _ _)) (blk_grown _ _ _ _)) (blk_grown _ _ _ _)) (blk_grown _ _ _ _)) (blk_grown _ _ _ _)) (blk_grown _ _ _ _)) (blk_grown _ _ _ _)) (blk_grown _ _ _ _)
  rw [hw3]
  have hZ3 := (hg3.block _ (blk_lt HZ2.out) (fun e => by have := Option.some.inj e; omega)).trans HZ2.out
  have HS3 := hide (Nat.le_trans HS2.out hg3.size)
  have HB3 := hide (HB2.out.grown hg3 (Nat.le_trans (by omega) HS2.out) (fun k hk => by cases hk; omega))
  have HG3 := hide (HG2.out.kept hg3 (Or.inr (fun q => by have := HG2.out.lt (w.heap.size + 1 + 1) q; have := HS1.out; omega)))
  have HH3 := hide (HH2.out.kept hg3 (Or.inr (fun q => by have := HH2.out.lt (w.heap.size + 1 + 1) q; have := HS1.out; omega)))
  have HZ3 := hide hZ3
  have HO3 := hide hO3
  clear hw3 hO3 hg3 hZ3 f0 o0 k0 f1 o1 k1 f2 o2 k2 f3 o3 k3 f4 o4 k4 f5 o5 k5 f6 o6 k6 f7 o7 k7 f8 o8 k8 f9 o9 k9 f10 o10 k10 f11 o11 k11 f12 o12 k12 f13 o13 k13
  have z0 := blk_free HZ3.out 0
  have y0 := blk_cell HZ3.out 0 rfl
  have o0 := blk_cell HO3.out 0 rfl
  have z1 := blk_free HZ3.out 1
  have y1 := blk_cell HZ3.out 1 rfl
  have o1 := blk_cell HO3.out 1 rfl
  have z2 := blk_free HZ3.out 2
  have y2 := blk_cell HZ3.out 2 rfl
  have o2 := blk_cell HO3.out 2 rfl
  have z3 := blk_free HZ3.out 3
  have y3 := blk_cell HZ3.out 3 rfl
  have o3 := blk_cell HO3.out 3 rfl
  have z4 := blk_free HZ3.out 4
  have y4 := blk_cell HZ3.out 4 rfl
  have o4 := blk_cell HO3.out 4 rfl
  have z5 := blk_free HZ3.out 5
  have y5 := blk_cell HZ3.out 5 rfl
  have o5 := blk_cell HO3.out 5 rfl
  have z6 := blk_free HZ3.out 6
  have y6 := blk_cell HZ3.out 6 rfl
  have o6 := blk_cell HO3.out 6 rfl
  have z7 := blk_free HZ3.out 7
  have y7 := blk_cell HZ3.out 7 rfl
  have o7 := blk_cell HO3.out 7 rfl
  have z8 := blk_free HZ3.out 8
  have y8 := blk_cell HZ3.out 8 rfl
  have o8 := blk_cell HO3.out 8 rfl
  have z9 := blk_free HZ3.out 9
  have y9 := blk_cell HZ3.out 9 rfl
  have o9 := blk_cell HO3.out 9 rfl
  have z10 := blk_free HZ3.out 10
  have y10 := blk_cell HZ3.out 10 rfl
  have o10 := blk_cell HO3.out 10 rfl
  have z11 := blk_free HZ3.out 11
  have y11 := blk_cell HZ3.out 11 rfl
  have o11 := blk_cell HO3.out 11 rfl
  have z12 := blk_free HZ3.out 12
  have y12 := blk_cell HZ3.out 12 rfl
  have o12 := blk_cell HO3.out 12 rfl
  have z13 := blk_free HZ3.out 13
  have y13 := blk_cell HZ3.out 13 rfl
  have o13 := blk_cell HO3.out 13 rfl
  go_wp2_with fail
  obtain ⟨w4, hw4⟩ : ∃ w4, ((((((((((((((w3.setCell ⟨w.heap.size + 1, 0, none⟩ (.int .i64 op)).setCell ⟨w.heap.size + 1, 1, none⟩ (.int .i64 tk)).setCell ⟨w.heap.size + 1, 2, none⟩ (.int .i64 sq)).setCell ⟨w.heap.size + 1, 3, none⟩ (.int .i64 id)).setCell ⟨w.heap.size + 1, 4, none⟩ (.int .i64 kd)).setCell ⟨w.heap.size + 1, 5, none⟩ (.int .i64 sn)).setCell ⟨w.heap.size + 1, 6, none⟩ (.int .i64 us)).setCell ⟨w.heap.size + 1, 7, none⟩ (.int .i64 mb)).setCell ⟨w.heap.size + 1, 8, none⟩ (.slice (some ⟨g, 0, none⟩) n n)).setCell ⟨w.heap.size + 1, 9, none⟩ (.string ⟨tx.toArray⟩)).setCell ⟨w.heap.size + 1, 10, none⟩ (.slice (some ⟨h, 0, none⟩) m m)).setCell ⟨w.heap.size + 1, 11, none⟩ (.int .i64 dp)).setCell ⟨w.heap.size + 1, 12, none⟩ (.int .i64 ds)).setCell ⟨w.heap.size + 1, 13, none⟩ (.int .i64 up)) = w4 := ⟨_, rfl⟩
  have hR4 : w4.heap[w.heap.size + 1]? = some (.cells #[.int .i64 op, .int .i64 tk, .int .i64 sq, .int .i64 id, .int .i64 kd, .int .i64 sn, .int .i64 us, .int .i64 mb, .slice (some ⟨g, 0, none⟩) n n, .string ⟨tx.toArray⟩, .slice (some ⟨h, 0, none⟩) m m, .int .i64 dp, .int .i64 ds, .int .i64 up] 31 (0, 0)) := by rw [← hw4]; exact cset13 (cset12 (cset11 (cset10 (cset9 (cset8 (cset7 (cset6 (cset5 (cset4 (cset3 (cset2 (cset1 (cset0 (HZ3.out))))))))))))))
  have hg4 : w3.grownBy w4 (some (w.heap.size + 1)) := by rw [← hw4]; exact grown_trans (grown_trans (grown_trans (grown_trans (grown_trans (grown_trans (grown_trans (grown_trans (grown_trans (grown_trans (grown_trans (grown_trans (grown_trans (blk_grown _ _ _ _) (blk_grown _ _ _ _)) (blk_grown _ _ _ _)) (blk_grown _ _ _ _)) (blk_grown _ _ _ _)) (blk_grown _ _ _ _)) (blk_grown _ _ _ _)) (blk_grown _ _ _ _)) (blk_grown _ _ _ _)) (blk_grown _ _ _ _)) (blk_grown _ _ _ _)) (blk_grown _ _ _ _)) (blk_grown _ _ _ _)) (blk_grown _ _ _ _)
  rw [hw4]
  clear hw4
  have r0 := blk_cell hR4 0 rfl
  have r1 := blk_cell hR4 1 rfl
  have r2 := blk_cell hR4 2 rfl
  have r3 := blk_cell hR4 3 rfl
  have r4 := blk_cell hR4 4 rfl
  have r5 := blk_cell hR4 5 rfl
  have r6 := blk_cell hR4 6 rfl
  have r7 := blk_cell hR4 7 rfl
  have r8 := blk_cell hR4 8 rfl
  have r9 := blk_cell hR4 9 rfl
  have r10 := blk_cell hR4 10 rfl
  have r11 := blk_cell hR4 11 rfl
  have r12 := blk_cell hR4 12 rfl
  have r13 := blk_cell hR4 13 rfl
  refine bodyPost_ret (v := cmval op tk sq id kd sn us mb dp (.slice (some ⟨g, 0, none⟩) n n) (.slice (some ⟨h, 0, none⟩) m m) tx ds up) (by simp [results, Tryz.results8, go_sem, r0, r1, r2, r3, r4, r5, r6, r7, r8, r9, r10, r11, r12, r13]) rfl ⟨g, h, rfl, ?_, ?_, hlt2, ?_⟩
  · exact own_base (HG3.out.kept hg4 (Or.inr (fun q => by have := HG3.out.lt (w.heap.size + 1) q; have := HS1.out; omega))) (by have := HS1.out; omega)
  · exact own_base (HH3.out.kept hg4 (Or.inr (fun q => by have := HH3.out.lt (w.heap.size + 1) q; have := HS1.out; omega))) (by have := HS1.out; omega)
  · exact HB3.out.grown hg4 HB3.out.size (fun k hk => by cases hk; omega)

set_option maxHeartbeats 4000000 in
theorem eqCommand_same (op tk sq id kd sn us mb dp : Int) (oa : Option Addr) (n cl : Nat) (tx : List UInt8) (ob : Option Addr) (m cp : Nat) (ds up : Int) (zl zp : List Int) (oc od : Option Addr) (cl2 cp2 : Nat) (hn20 : n ≤ 1048576) (hm20 : m ≤ 1048576) (w : World) (h1 : IntsAt w oa n cl zl) (h2 : IntsAt w oc n cl2 zl) (h3 : IntsAt w ob m cp zp) (h4 : IntsAt w od m cp2 zp) :
    Calls Tryz.prog 10 #[cmval op tk sq id kd sn us mb dp (.slice oa n cl) (.slice ob m cp) tx ds up, cmval op tk sq id kd sn us mb dp (.slice oc n cl2) (.slice od m cp2) tx ds up] w fun e w' => e = .returned (.bool true) ∧ Below w.heap.size w w' := by
  have hb0 := ((Below.refl w.heap.size w).alloc (Nat.le_refl _) (.cells #[.int .i64 op, .int .i64 tk, .int .i64 sq, .int .i64 id, .int .i64 kd, .int .i64 sn, .int .i64 us, .int .i64 mb, .slice oa n cl, .string ⟨tx.toArray⟩, .slice ob m cp, .int .i64 dp, .int .i64 ds, .int .i64 up] 31)).alloc (by simp) (.cells #[.int .i64 op, .int .i64 tk, .int .i64 sq, .int .i64 id, .int .i64 kd, .int .i64 sn, .int .i64 us, .int .i64 mb, .slice oc n cl2, .string ⟨tx.toArray⟩, .slice od m cp2, .int .i64 dp, .int .i64 ds, .int .i64 up] 31)
  have HE := hide (eqEvent_same id kd sn us mb dp oa n cl tx ob m cp zl zp oc od cl2 cp2 hn20 hm20 _ (h1.below hb0) (h2.below hb0) (h3.below hb0) (h4.below hb0))
  have L1 := hide ((CB.new w op tk sq id kd sn us mb dp oa n cl tx ob m cp ds up).on ((Below.refl _ _).alloc (Nat.le_refl _) (.cells #[.int .i64 op, .int .i64 tk, .int .i64 sq, .int .i64 id, .int .i64 kd, .int .i64 sn, .int .i64 us, .int .i64 mb, .slice oc n cl2, .string ⟨tx.toArray⟩, .slice od m cp2, .int .i64 dp, .int .i64 ds, .int .i64 up] 31)) (by simp))
  have hL2 := CB.new (w.alloc (.cells #[.int .i64 op, .int .i64 tk, .int .i64 sq, .int .i64 id, .int .i64 kd, .int .i64 sn, .int .i64 us, .int .i64 mb, .slice oa n cl, .string ⟨tx.toArray⟩, .slice ob m cp, .int .i64 dp, .int .i64 ds, .int .i64 up] 31)) op tk sq id kd sn us mb dp oc n cl2 tx od m cp2 ds up
  rw [World.size_alloc] at hL2
  have L2 := hide hL2
  have HB0 := hide hb0
  clear h1 h2 h3 h4 hb0 hL2
  go_enter Tryz.func10, Tryz.ntmps10
  go_wp2_with fail
  refine HE.out.mono ?_
  rintro e w1 ⟨rfl, hb1⟩
  have HB1 := hide (HB0.out.trans (hb1.mono HB0.out.size))
  obtain ⟨k0, k1, k2, k3, k4, k5, k6, k7, k8, k9, k10, k11, k12, k13⟩ := (L1.out.on hb1 L1.out.lt).cc
  obtain ⟨l0, l1, l2, l3, l4, l5, l6, l7, l8, l9, l10, l11, l12, l13⟩ := (L2.out.on hb1 L2.out.lt).cc
  clear hb1
  go_wp2_with fail
  go_ret
  exact ⟨rfl, HB1.out⟩

end Go.Proofs.YtckkfjmjcknjdaaGreatDoor
