/-
  Slices of acts: read, compared, marked by the laws.
-/
import Derived.Test.YtpenpbopehbncaaDoorPlain8
import Derived.Test.YtpenpbopehbncaaDoorRowK
import Derived.Test.YtpenpbopehbncaaDoorPack34
import Derived.Test.YtpenpbopehbncaaDoorPack15
namespace Go.Proofs.YtpenpbopehbncaaDoor
open Go.RowKit P1 P5 K
set_option linter.unusedVariables false
set_option linter.unusedSimpArgs false

theorem infoKA : (Tryd.prog.info? 79).map (·.size) = some 4 := by kernel_rfl
theorem infoKAz : (Tryd.prog.info? 79).map (fun i => (i.zero, i.size, i.bytes)) = some (some (.agg #[.int .i64 0, .string ⟨#[]⟩, .string ⟨#[]⟩, .string ⟨#[]⟩]), 4, 56) := by kernel_rfl

def akc (a : ActV) : List Value := [.int .i64 a.kind, .string ⟨a.name.toArray⟩, .string ⟨a.text.toArray⟩, .string ⟨a.to.toArray⟩]
theorem akc_length (a : ActV) : (akc a).length = 4 := rfl
theorem akc_one (a : ActV) : ∀ u ∈ akc a, u.oneCell' = true := by
  intro u hu
  simp only [akc, List.mem_cons, List.not_mem_nil, or_false] at hu
  rcases hu with rfl | rfl | rfl | rfl <;> rfl

/-- A slice of acts that reads as fs. -/
abbrev AksAt (w : World) (oa : Option Addr) (n cap : Nat) (fs : List ActV) : Prop := RowsAt 4 akc w oa n cap fs

theorem RowsAt.get4 {w : World} {oa : Option Addr} {n cap : Nat} {es : List ActV} (h : AksAt w oa n cap es) {P : Program} {t e : TypeId} (ht : P.underlying t = some (.slice e)) (hi : (P.info? e).map (·.size) = some 4) (i : Nat) (hin : i < n) :
    ∃ f b q, es[i]? = some f ∧ (∀ wx, (Instr.indexAt t (.slice oa n cap) (.int .i64 (i : Int))).run P wx = .ok (.pointer (some ⟨b, q, none⟩)) wx) ∧ b < w.heap.size ∧
      w.cell? ⟨b, q, none⟩ = some (.int .i64 f.kind) ∧ w.cell? ⟨b, q + 1, none⟩ = some (.string ⟨f.name.toArray⟩) ∧ w.cell? ⟨b, q + 2, none⟩ = some (.string ⟨f.text.toArray⟩) ∧ w.cell? ⟨b, q + 3, none⟩ = some (.string ⟨f.to.toArray⟩) := by
  obtain ⟨f, b, q, hf, hx, hb, hc⟩ := h.get ht hi akc_length (by omega) i hin
  exact ⟨f, b, q, hf, hx, hb, hc 0 _ rfl, hc 1 _ rfl, hc 2 _ rfl, hc 3 _ rfl⟩

theorem aksAt_own {w : World} {base : Nat} {e : TypeId} {v : Value} {n : Nat} {es : List ActV} (h : w.ownsRow base e 4 v n (es.flatMap akc)) : ∃ oa cap, v = .slice oa n cap ∧ AksAt w oa n cap es := rowsAt_of_own akc_length (by omega) h

theorem own_lenA {w : World} {base : Nat} {e : TypeId} {v : Value} {n : Nat} {ys : List ActV} (h : w.ownsRow base e 4 v n (ys.flatMap akc)) : ys.length = n := by
  have := h.1
  rw [flat_length akc 4 akc_length] at this
  omega

def markA (k i : Nat) : ActV := ⟨((k + 4 * i : Nat) : Int), markB (k + 4 * i + 1), markB (k + 4 * i + 2), markB (k + 4 * i + 3)⟩
def marksA (k n : Nat) : List ActV := (List.range n).map (markA k)
theorem marksA_length (k n : Nat) : (marksA k n).length = n := by simp [marksA]
theorem marksA_at (k n i : Nat) (h : i < n) : (marksA k n)[i]? = some (markA k i) := by simp [marksA, h]

set_option maxHeartbeats 1000000 in
theorem eqActK_same (a : ActV) (w : World) :
    Calls Tryd.prog 65 #[.agg #[.int .i64 a.kind, .string ⟨a.name.toArray⟩, .string ⟨a.text.toArray⟩, .string ⟨a.to.toArray⟩], .agg #[.int .i64 a.kind, .string ⟨a.name.toArray⟩, .string ⟨a.text.toArray⟩, .string ⟨a.to.toArray⟩]] w fun e w' => e = .returned (.bool true) ∧ Below w.heap.size w w' := by
  have HB := hide (((Below.refl w.heap.size w).alloc (Nat.le_refl _) (.cells #[.int .i64 a.kind, .string ⟨a.name.toArray⟩, .string ⟨a.text.toArray⟩, .string ⟨a.to.toArray⟩] 79)).alloc (by simp) (.cells #[.int .i64 a.kind, .string ⟨a.name.toArray⟩, .string ⟨a.text.toArray⟩, .string ⟨a.to.toArray⟩] 79))
  go_enter Tryd.func65, Tryd.ntmps65
  go_wp2_with fail
  go_ret
  exact ⟨rfl, HB.out⟩

set_option maxHeartbeats 1000000 in
theorem eqActK_S (oa : Option Addr) (n cap : Nat) (ob : Option Addr) (cap' : Nat) (es : List ActV) (hn20 : n ≤ 1048576) (w : World) (hat : AksAt w oa n cap es) (hbt : AksAt w ob n cap' es) :
    Calls Tryd.prog 24 #[.slice oa n cap, .slice ob n cap'] w fun e w' => e = .returned (.bool true) ∧ Below w.heap.size w w' := by
  have HAT := hide hat
  have HBT := hide hbt
  clear hat hbt
  go_enter Tryd.func24, Tryd.ntmps24
  go_wp2_with fail
  go_loopw [5] (fun i wr => ∃ (j : Nat), i = .int .i64 (j : Int) ∧ j ≤ n ∧ Below w.heap.size w wr) (fun i _ => n - (intOf i).toNat)
  case atStart => exact ⟨0, rfl, Nat.zero_le _, Below.refl _ _⟩
  case round =>
    obtain ⟨j, rfl, hj, hbel⟩ := hrel
    by_cases hlt : j < n
    · have j0 : (j : Int) < (n : Int) := by omega
      obtain ⟨f, b, q, hf, hidx, hb, c0, c1, c2, c3⟩ := (HAT.out.below hbel).get4 Tryd.underlying42 infoKA j hlt
      obtain ⟨f', b', q', hf', hidx', hb', d0, d1, d2, d3⟩ := (HBT.out.below hbel).get4 Tryd.underlying42 infoKA j hlt
      rw [hf] at hf'
      cases hf'
      have hEQ := hide (eqActK_same f)
      have hsz := hbel.size
      clear hf
      go_wp2_with fail
      refine wp_region_in (F := fun w' => Below wr.heap.size wr w') (by kernel_rfl) (by kernel_rfl) (Below.refl _ _).drew ?_
      have hne : Nonempty (InW (fun w' => Below wr.heap.size wr w')) := ⟨⟨_, Below.refl _ _⟩⟩
      have k0 : ∀ m : InW (fun w' => Below wr.heap.size wr w'), m.w.cell? ⟨b, q, none⟩ = some (.int .i64 f.kind) := fun m => (m.h.cell hb).trans c0
      have k1 : ∀ m : InW (fun w' => Below wr.heap.size wr w'), m.w.cell? ⟨b, q + 1, none⟩ = some (.string ⟨f.name.toArray⟩) := fun m => (m.h.cell hb).trans c1
      have k2 : ∀ m : InW (fun w' => Below wr.heap.size wr w'), m.w.cell? ⟨b, q + 2, none⟩ = some (.string ⟨f.text.toArray⟩) := fun m => (m.h.cell hb).trans c2
      have k3 : ∀ m : InW (fun w' => Below wr.heap.size wr w'), m.w.cell? ⟨b, q + 3, none⟩ = some (.string ⟨f.to.toArray⟩) := fun m => (m.h.cell hb).trans c3
      have m0 : ∀ m : InW (fun w' => Below wr.heap.size wr w'), m.w.cell? ⟨b', q', none⟩ = some (.int .i64 f.kind) := fun m => (m.h.cell hb').trans d0
      have m1 : ∀ m : InW (fun w' => Below wr.heap.size wr w'), m.w.cell? ⟨b', q' + 1, none⟩ = some (.string ⟨f.name.toArray⟩) := fun m => (m.h.cell hb').trans d1
      have m2 : ∀ m : InW (fun w' => Below wr.heap.size wr w'), m.w.cell? ⟨b', q' + 2, none⟩ = some (.string ⟨f.text.toArray⟩) := fun m => (m.h.cell hb').trans d2
      have m3 : ∀ m : InW (fun w' => Below wr.heap.size wr w'), m.w.cell? ⟨b', q' + 3, none⟩ = some (.string ⟨f.to.toArray⟩) := fun m => (m.h.cell hb').trans d3
      repeat (go_big_quiet_step (first | (go_at_call 65; refine (hEQ.out _).mono ?_; rintro e w2 ⟨rfl, hb2⟩; exact ⟨rfl, ⟨w2, Below.trans (InW.h _) (hb2.mono (Below.size (InW.h (F := fun w' => Below wr.heap.size wr w') ‹_›)))⟩, rfl⟩)))
      refine wpQuiet_nil ?_
      intro _ hw'
      obtain ⟨nq, hw''⟩ := hw'
      subst hw''
      have hb3 := hbel.trans (nq.h.mono hsz)
      generalize nq.w = w2 at hb3 ⊢
      clear hne k0 k1 k2 k3 m0 m1 m2 m3
      go_wp2_with fail
      go_roundw
      case rel => exact ⟨j + 1, by go_num, by omega, hb3⟩
      case measure => simp [intOf]; omega
    · have hjn : j = n := by omega
      go_wp2_with fail
      go_ret
      exact ⟨rfl, hbel⟩

set_option maxHeartbeats 2000000 in
theorem markActK_some (g n cap base k : Nat) (hn : n ≤ 1048576) (hk : k ≤ 1000000) (w : World) (es : List ActV) (hown : w.ownsRow base 79 4 (.slice (some ⟨g, 0, none⟩) n cap) n (es.flatMap akc)) :
    Calls Tryd.prog 27 #[.slice (some ⟨g, 0, none⟩) n cap, .int .i64 (k : Int)] w fun e w' => e = .returned (.int .i64 ((k + 4 * n : Nat) : Int)) ∧ w'.ownsRow base 79 4 (.slice (some ⟨g, 0, none⟩) n cap) n ((marksA k n).flatMap akc) ∧ w.grownBy w' (some g) := by
  have HO0 := hide hown
  clear hown
  go_enter Tryd.func27, Tryd.ntmps27
  go_wp2_with fail
  go_loopw [1, 5] (fun x i wr => ∃ (j : Nat) (ys : List ActV), i = .int .i64 (j : Int) ∧ x = .int .i64 ((k + 4 * j : Nat) : Int) ∧ j ≤ n ∧ (∀ m, m < j → ys[m]? = (marksA k n)[m]?) ∧ wr.ownsRow base 79 4 (.slice (some ⟨g, 0, none⟩) n cap) n (ys.flatMap akc) ∧ w.grownBy wr (some g)) (fun _ i _ => n - (intOf i).toNat)
  case atStart => exact ⟨0, es, rfl, rfl, Nat.zero_le _, fun k hk => absurd hk (Nat.not_lt_zero _), HO0.out, grown_below (Below.refl _ _)⟩
  case round =>
    obtain ⟨j, ys, rfl, rfl, hj, hfill, hown, hgr⟩ := hrel
    by_cases hlt : j < n
    · have j0 : (j : Int) < (n : Int) := by omega
      have hidx2 : ∀ wx, (Instr.indexAt 42 (.slice (some ⟨g, 0, none⟩) n cap) (.int .i64 (j : Int))).run Tryd.prog wx = .ok (.pointer (some ⟨g, j * 4, none⟩)) wx := fun wx => by
        have := run_indexAt_slice wx 42 79 4 Tryd.underlying42 infoKA g 0 n cap j hlt
        rwa [Nat.zero_add] at this
      have HYL := hide (own_lenA hown)
      have HFI := hide hfill
      have at4 : ∀ {wx : World} {zs : List Value}, wx.ownsRow base 79 4 (.slice (some ⟨g, 0, none⟩) n cap) n zs → ∀ c, c < 4 → ∃ u, wx.cell? ⟨g, j * 4 + c, none⟩ = some u := fun h c hc => ⟨_, by rw [h.cellAt (j * 4 + c) (by omega), List.getElem?_eq_getElem (by rw [h.1]; omega)]⟩
      obtain ⟨y0, z0⟩ := at4 hown 0 (by decide)
      rw [Nat.add_zero] at z0
      have f0 := hown.frozenAt (j * 4)
      have st0 := hown.stored (j * 4) (.int .i64 ((k + 4 * j : Nat) : Int))
      have HO1 := hide st0.1
      have HG1 := hide (grown_trans hgr st0.2)
      clear hfill hown hgr st0
      go_wp2_with fail
      refine (markText_any (k + 4 * j + 1) (by omega) _).mono ?_
      rintro e w3 ⟨rfl, hb3⟩
      have ho3 := own_below HO1.out hb3
      obtain ⟨y1, z1⟩ := at4 ho3 1 (by decide)
      have f1 := ho3.frozenAt (j * 4 + 1)
      have st1 := ho3.stored (j * 4 + 1) (.string ⟨(markB (k + 4 * j + 1)).toArray⟩)
      have HO2 := hide st1.1
      have HG2 := hide (grown_trans HG1.out (grown_trans (grown_below hb3) st1.2))
      clear hb3 ho3 st1 z0 f0 HO1 HG1
      go_wp2_with fail
      refine (markText_any (k + 4 * j + 2) (by omega) _).mono ?_
      rintro e w4 ⟨rfl, hb4⟩
      have ho4 := own_below HO2.out hb4
      obtain ⟨y2, z2⟩ := at4 ho4 2 (by decide)
      have f2 := ho4.frozenAt (j * 4 + 2)
      have st2 := ho4.stored (j * 4 + 2) (.string ⟨(markB (k + 4 * j + 2)).toArray⟩)
      have HO3 := hide st2.1
      have HG3 := hide (grown_trans HG2.out (grown_trans (grown_below hb4) st2.2))
      clear hb4 ho4 st2 z1 f1 HO2 HG2
      go_wp2_with fail
      refine (markText_any (k + 4 * j + 3) (by omega) _).mono ?_
      rintro e w5 ⟨rfl, hb5⟩
      have ho5 := own_below HO3.out hb5
      obtain ⟨y3, z3⟩ := at4 ho5 3 (by decide)
      have f3 := ho5.frozenAt (j * 4 + 3)
      have st3 := ho5.stored (j * 4 + 3) (.string ⟨(markB (k + 4 * j + 3)).toArray⟩)
      have ho6 := st3.1
      have e4 : (((((ys.flatMap akc).set (j * 4) (.int .i64 ((k + 4 * j : Nat) : Int))).set (j * 4 + 1) (.string ⟨(markB (k + 4 * j + 1)).toArray⟩)).set (j * 4 + 2) (.string ⟨(markB (k + 4 * j + 2)).toArray⟩)).set (j * 4 + 3) (.string ⟨(markB (k + 4 * j + 3)).toArray⟩)) = (ys.set j (markA k j)).flatMap akc := setAll_flat (cf := akc) (k := 4) akc_length ys j (markA k j) (by rw [HYL.out]; exact hlt)
      rw [e4] at ho6
      have HO4 := hide ho6
      have HG4 := hide (grown_trans HG3.out (grown_trans (grown_below hb5) st3.2))
      clear hb5 ho5 st3 z2 f2 HO3 HG3 ho6 e4
      go_wp2_with fail
      go_roundw
      case rel =>
        refine ⟨j + 1, _, by go_num, by go_num, by omega, ?_, HO4.out, HG4.out⟩
        intro m hm
        by_cases e : m = j
        · subst e
          rw [List.getElem?_set_self (by rw [HYL.out]; exact hlt), marksA_at k n m hlt]
        · rw [List.getElem?_set_ne (by omega)]
          exact HFI.out m (by omega)
      case measure => simp [intOf]; omega
    · have ej : j = n := by omega
      subst ej
      have HE := hide (show ys = marksA k j by
        apply List.ext_getElem?
        intro m
        by_cases hm : m < j
        · exact hfill m hm
        · rw [List.getElem?_eq_none (by rw [own_lenA hown]; omega), List.getElem?_eq_none (by rw [marksA_length]; omega)])
      have HO := hide hown
      clear hown hfill
      go_wp2_with fail
      go_ret
      exact ⟨by go_num, by rw [← HE.out]; exact HO.out, hgr⟩

theorem markActK_any (v : Value) (n base k : Nat) (hn : n ≤ 1048576) (hk : k ≤ 1000000) (w : World) (es : List ActV) (hown : w.ownsRow base 79 4 v n (es.flatMap akc)) :
    Calls Tryd.prog 27 #[v, .int .i64 (k : Int)] w fun e w' => e = .returned (.int .i64 ((k + 4 * n : Nat) : Int)) ∧ w'.ownsRow base 79 4 v n ((marksA k n).flatMap akc) ∧ w.grownBy w' v.ownBlock := by
  rcases hown.2 with ⟨rfl, rfl⟩ | ⟨g, cap, cur, rfl, _⟩
  · clear hown
    go_enter Tryd.func27, Tryd.ntmps27
    go_wp2_with fail
    go_loopw [1, 5] (fun x i wr => x = .int .i64 (k : Int) ∧ i = .int .i64 0 ∧ wr = w) (fun _ _ _ => 0)
    case atStart => exact ⟨rfl, rfl, rfl⟩
    case round =>
      obtain ⟨rfl, rfl, rfl⟩ := hrel
      go_wp2_with fail
      go_ret
      exact ⟨rfl, World.ownsRow_nil _ _ _ _, grown_below (Below.refl _ _)⟩
  · exact markActK_some g n cap base k hn hk w es hown

set_option maxHeartbeats 2000000 in
theorem heldActK_any (oa : Option Addr) (n cap k : Nat) (hn : n ≤ 1048576) (hk : k ≤ 1000000) (w : World) (hat : AksAt w oa n cap (marksA k n)) :
    Calls Tryd.prog 28 #[.slice oa n cap, .int .i64 (k : Int)] w fun e w' => e = .returned (.int .i64 ((k + 4 * n : Nat) : Int)) ∧ Below w.heap.size w w' := by
  have HAT := hide hat
  clear hat
  go_enter Tryd.func28, Tryd.ntmps28
  go_wp2_with fail
  go_loopw [1, 5] (fun x i wr => ∃ (j : Nat), i = .int .i64 (j : Int) ∧ x = .int .i64 ((k + 4 * j : Nat) : Int) ∧ j ≤ n ∧ Below w.heap.size w wr) (fun _ i _ => n - (intOf i).toNat)
  case atStart => exact ⟨0, rfl, rfl, Nat.zero_le _, Below.refl _ _⟩
  case round =>
    obtain ⟨j, rfl, rfl, hj, hbel⟩ := hrel
    by_cases hlt : j < n
    · have j0 : (j : Int) < (n : Int) := by omega
      obtain ⟨f, b, q, hf, hidx, hb, c0, c1, c2, c3⟩ := (HAT.out.below hbel).get4 Tryd.underlying42 infoKA j hlt
      rw [marksA_at k n j hlt] at hf
      cases hf
      simp only [markA] at c0 c1 c2 c3
      have hsz := hbel.size
      have HBL := hide hbel
      clear hbel
      go_wp2_with fail
      refine wp_region_in (F := fun w' => Below wr.heap.size wr w') (by kernel_rfl) (by kernel_rfl) (Below.refl _ _).drew ?_
      have hne : Nonempty (InW (fun w' => Below wr.heap.size wr w')) := ⟨⟨_, Below.refl _ _⟩⟩
      have k0 : ∀ m : InW (fun w' => Below wr.heap.size wr w'), m.w.cell? ⟨b, q + 1, none⟩ = some (.string ⟨(markB (k + 4 * j + 1)).toArray⟩) := fun m => (m.h.cell hb).trans c1
      repeat (go_big_quiet_step (first | (go_at_call 68; refine (markText_any (k + 4 * j + 1) (by omega) _).mono ?_; rintro e w2 ⟨rfl, hb2⟩; exact ⟨rfl, ⟨w2, Below.trans (InW.h _) (hb2.mono (Below.size (InW.h (F := fun w' => Below wr.heap.size wr w') ‹_›)))⟩, rfl⟩)))
      refine wpQuiet_nil ?_
      intro _ hw'
      obtain ⟨nq, hw''⟩ := hw'
      subst hw''
      have hb3 := nq.h
      generalize nq.w = w3 at hb3 ⊢
      have e2 := (hb3.cell (p := ⟨b, q + 2, none⟩) hb).trans c2
      have e3 := (hb3.cell (p := ⟨b, q + 3, none⟩) hb).trans c3
      have B3 := hide (HBL.out.trans (hb3.mono hsz))
      have hb' : b < w3.heap.size := Nat.lt_of_lt_of_le hb hb3.size
      clear hne k0 c0 c1 c2 c3 hb3 hb HBL
      have hsz3 := B3.out.size
      go_wp2_with fail
      refine wp_region_in (F := fun w' => Below w3.heap.size w3 w') (by kernel_rfl) (by kernel_rfl) (Below.refl _ _).drew ?_
      have hne : Nonempty (InW (fun w' => Below w3.heap.size w3 w')) := ⟨⟨_, Below.refl _ _⟩⟩
      have k0 : ∀ m : InW (fun w' => Below w3.heap.size w3 w'), m.w.cell? ⟨b, q + 2, none⟩ = some (.string ⟨(markB (k + 4 * j + 2)).toArray⟩) := fun m => (m.h.cell hb').trans e2
      repeat (go_big_quiet_step (first | (go_at_call 68; refine (markText_any (k + 4 * j + 2) (by omega) _).mono ?_; rintro e w2 ⟨rfl, hb2⟩; exact ⟨rfl, ⟨w2, Below.trans (InW.h _) (hb2.mono (Below.size (InW.h (F := fun w' => Below w3.heap.size w3 w') ‹_›)))⟩, rfl⟩)))
      refine wpQuiet_nil ?_
      intro _ hw'
      obtain ⟨nq, hw''⟩ := hw'
      subst hw''
      have hb4 := nq.h
      generalize nq.w = w4 at hb4 ⊢
      have e3' := (hb4.cell (p := ⟨b, q + 3, none⟩) hb').trans e3
      have B4 := hide (B3.out.trans (hb4.mono hsz3))
      have hb'' : b < w4.heap.size := Nat.lt_of_lt_of_le hb' hb4.size
      clear hne k0 e2 e3 hb4 hb' B3
      have hsz4 := B4.out.size
      go_wp2_with fail
      refine wp_region_in (F := fun w' => Below w4.heap.size w4 w') (by kernel_rfl) (by kernel_rfl) (Below.refl _ _).drew ?_
      have hne : Nonempty (InW (fun w' => Below w4.heap.size w4 w')) := ⟨⟨_, Below.refl _ _⟩⟩
      have k0 : ∀ m : InW (fun w' => Below w4.heap.size w4 w'), m.w.cell? ⟨b, q + 3, none⟩ = some (.string ⟨(markB (k + 4 * j + 3)).toArray⟩) := fun m => (m.h.cell hb'').trans e3'
      repeat (go_big_quiet_step (first | (go_at_call 68; refine (markText_any (k + 4 * j + 3) (by omega) _).mono ?_; rintro e w2 ⟨rfl, hb2⟩; exact ⟨rfl, ⟨w2, Below.trans (InW.h _) (hb2.mono (Below.size (InW.h (F := fun w' => Below w4.heap.size w4 w') ‹_›)))⟩, rfl⟩)))
      refine wpQuiet_nil ?_
      intro _ hw'
      obtain ⟨nq, hw''⟩ := hw'
      subst hw''
      have hb5 := nq.h
      generalize nq.w = w5 at hb5 ⊢
      have B5 := hide (B4.out.trans (hb5.mono hsz4))
      clear hne k0 e3' hb5 hb'' B4
      go_wp2_with fail
      go_roundw
      case rel => exact ⟨j + 1, by go_num, by go_num, by omega, B5.out⟩
      case measure => simp [intOf]; omega
    · have ej : j = n := by omega
      subst ej
      go_wp2_with fail
      go_ret
      exact ⟨by go_num, hbel⟩

end Go.Proofs.YtpenpbopehbncaaDoor
